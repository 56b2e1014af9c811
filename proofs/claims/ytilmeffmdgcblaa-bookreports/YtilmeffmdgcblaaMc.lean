/- Books, on lists: a book as its epochs and its sagas' steps and numbers; whether a record goes, and the book behind it; what stands behind records that all go. No program is named here. -/
import Derived.Test.YtilmeffmdgcblaaMb
import Derived.Test.YtilmeffmdgcblaaMa
import Derived.WideKeyElems
import Derived.WideMake
set_option linter.all false
namespace Go.Proofs.Ytilmeffmdgcblaa
open Go Go.RowKit
set_option maxRecDepth 8000
set_option linter.all false
abbrev Ug := List (Int × Int) × Sg
structure Bk where
  ep : Nat → Int
  sg : List Ug
def zK : Bk := ⟨fun _ => 0, []⟩
def sgAt (K : Bk) (k : Nat) : Ug := K.sg.getD k ([], zG)
def isFromB (K : Bk) (x : Rc) : Bool :=
  if x.saga < K.sg.length then (if x.step < (sgAt K x.saga.toNat).1.length then x.part == ptL (sgAt K x.saga.toNat).1 x.step.toNat && x.epoch == K.ep x.part.toNat else false) else false
def onB (lim : Int) (K : Bk) (x : Rc) : Bool := if x.saga < K.sg.length then goesB (sgAt K x.saga.toNat).1 lim (sgAt K x.saga.toNat).2 x else false
def onK (lim : Int) (K : Bk) (x : Rc) : Bk := if x.saga < K.sg.length then { K with sg := K.sg.set x.saga.toNat ((sgAt K x.saga.toNat).1, wentG (sgAt K x.saga.toNat).1 lim (sgAt K x.saga.toNat).2 x) } else K
def begB (K : Bk) (x : Rc) : Bool := if x.saga = K.sg.length then mayL x.steps else false
def begK (K : Bk) (x : Rc) : Bk := { K with sg := K.sg ++ [(newL x.steps, newG x.steps)] }
def rotB (K : Bk) (x : Rc) : Bool := x.epoch == K.ep x.part.toNat + 1
def rotK (K : Bk) (x : Rc) : Bk := { K with ep := fun i => if i = x.part.toNat then x.epoch else K.ep i }
def ansB (lim : Int) (K : Bk) (x : Rc) : Bool := isFromB K x && onB lim K x
def begN (K : Bk) (x : Rc) : Bk := if begB K x = true then begK K x else K
def rotN (K : Bk) (x : Rc) : Bk := if rotB K x = true then rotK K x else K
def ansN2 (lim : Int) (K : Bk) (x : Rc) : Bk := if ansB lim K x = true then onK lim K x else K
/-- Does a record go by its kind's way? -/
def wayB (lim : Int) (K : Bk) (x : Rc) : Bool := if x.kind = 1 then begB K x else if x.kind = 3 then ansB lim K x else if x.kind = 6 then rotB K x else onB lim K x
def wayK (lim : Int) (K : Bk) (x : Rc) : Bk := if x.kind = 1 then begK K x else if x.kind = 6 then rotK K x else onK lim K x
def goesK (lim : Int) (K : Bk) (x : Rc) : Bool := (inR lim 1 9 && rightB x) && wayB lim K x
def wentK (lim : Int) (K : Bk) (x : Rc) : Bk := if goesK lim K x = true then wayK lim K x else K
/-- Numbers that are small enough. -/
structure OkK (K : Bk) : Prop where
  len : K.sg.length ≤ 1000
  sg : ∀ p ∈ K.sg, OkG p.1 p.2
  ep : ∀ i, 0 ≤ K.ep i ∧ K.ep i ≤ 1000000
theorem sgAt_some {K : Bk} {k : Nat} (h : k < K.sg.length) : K.sg[k]? = some (sgAt K k) := by simp [sgAt, List.getD, h]
theorem set_same {α : Type} {l : List α} {k : Nat} {p : α} (h : l[k]? = some p) : l.set k p = l := by
  obtain ⟨hk, rfl⟩ := List.getElem?_eq_some_iff.1 h
  exact List.set_getElem_self hk
theorem onK_no {lim : Int} {K : Bk} {x : Rc} (h : onB lim K x = false) : onK lim K x = K := by
  unfold onK
  split
  next h1 =>
    unfold onB at h
    rw [if_pos h1] at h
    unfold wentG
    rw [if_neg (by rw [h]; simp)]
    have : 0 ≤ x.saga ∨ x.saga < 0 := by omega
    by_cases hk : x.saga.toNat < K.sg.length
    · show (⟨K.ep, K.sg.set x.saga.toNat (sgAt K x.saga.toNat)⟩ : Bk) = K
      rw [set_same (sgAt_some hk)]
    · show (⟨K.ep, K.sg.set x.saga.toNat (sgAt K x.saga.toNat)⟩ : Bk) = K
      rw [List.set_eq_of_length_le (by omega)]
  next => rfl
/-- What a right record has. -/
theorem right_saga {x : Rc} (h : rightB x = true) : 0 ≤ x.saga ∧ x.saga ≤ 11 := by
  unfold rightB at h
  repeat' split at h
  all_goals simp only [Bool.and_eq_true, inR_iff, beq_iff_eq, Bool.false_eq_true] at h
  all_goals omega
theorem right_part {x : Rc} (h : rightB x = true) : 0 ≤ x.part ∧ x.part ≤ 3 := by
  unfold rightB at h
  repeat' split at h
  all_goals simp only [Bool.and_eq_true, inR_iff, beq_iff_eq, Bool.false_eq_true] at h
  all_goals omega
theorem right_step {x : Rc} (h : rightB x = true) : 0 ≤ x.step ∧ x.step ≤ 5 := by
  unfold rightB isCall noCall at h
  repeat' split at h
  all_goals simp only [Bool.and_eq_true, inR_iff, beq_iff_eq, Bool.false_eq_true] at h
  all_goals omega
theorem right_good {x : Rc} (h : rightB x = true) (h4 : x.kind = 4) : x.good = false := by
  unfold rightB noReceipt at h
  rw [if_neg (by omega), if_pos (.inr h4)] at h
  simp only [Bool.and_eq_true, Bool.not_eq_true'] at h
  exact h.1.1.1.1.2.1
/-- A record that goes leaves a saga as records make it. -/
theorem goes_st {l : List (Int × Int)} {s : St} {lim : Nat} (hm : mayL l = true) (hi : Inv (kks l) lim s) (h1 : 1 ≤ lim) (h9 : lim ≤ 9) {q : Int} {x : Rc} (hgd : x.kind = 4 → x.good = false) (h : goesB l (lim : Int) (ofSt s q) x = true) :
    ∃ s', wentG l (lim : Int) (ofSt s q) x = ofSt s' (q + 1) ∧ Inv (kks l) lim s' := by
  have hs := inv_small hm hi
  have hp : s.ph < 2 := by
    by_cases hp : 2 ≤ s.ph
    · rw [go_over hm hi h1 h9 hp] at h; cases h
    · omega
  have hx := h
  unfold goesB at hx
  simp only [Bool.not_eq_true', Bool.or_eq_false_iff, Bool.not_eq_false', bne_eq_false_iff_eq] at hx
  obtain ⟨⟨_, hsq⟩, hf⟩ := hx
  have hsq : x.seq = q := hsq
  unfold fitsB at hf
  split at hf
  next hk =>
    unfold isDueB at hf
    simp only [Bool.and_eq_true, beq_iff_eq] at hf
    obtain ⟨⟨⟨⟨⟨hg, e1⟩, e2⟩, e3⟩, e4⟩, e5⟩ := hf
    have hw : s.w = false := by
      rw [in_st h1 h9 hs.2.2.2.2.1] at hg
      cases hw : s.w with
      | false => rfl
      | true => rw [hw] at hg; cases hg
    have hd := go_due hm hi h1 h9 hw hp (q := q) (x := { dueX l (lim : Int) (ofSt s q) with seq := q }) rfl
    refine ⟨nextA (kks l) lim 0 s, ?_, next_inv (may_kinds hm) hi⟩
    have hn : dueA (kks l).length lim s = nextA (kks l) lim 0 s := by unfold nextA; rw [hw]; rfl
    have hb : behG l (lim : Int) (ofSt s q) x = behG l (lim : Int) (ofSt s q) { dueX l (lim : Int) (ofSt s q) with seq := q } := by
      have hk' : (dueX l (lim : Int) (ofSt s q)).kind = 2 ∨ (dueX l (lim : Int) (ofSt s q)).kind = 5 := by rw [← e1]; exact hk
      unfold behG begG
      show (if x.kind = 2 then _ else if x.kind = 5 then _ else _) = (if (dueX l (lim : Int) (ofSt s q)).kind = 2 then _ else if (dueX l (lim : Int) (ofSt s q)).kind = 5 then _ else _)
      rw [e1]
      rcases hk' with hk' | hk'
      · rw [if_pos hk', if_pos hk', e3, e4]
      · have hk2 : ¬ (dueX l (lim : Int) (ofSt s q)).kind = 2 := by omega
        rw [if_neg hk2, if_neg hk2, if_pos hk', if_pos hk', e4, e5]
    have h2 := hd.2
    unfold wentG at h2 ⊢
    rw [if_pos hd.1] at h2
    rw [if_pos h, hb, h2]
    rw [hn]
  next =>
    split at hf
    next hk =>
      unfold isOutB at hf
      simp only [Bool.and_eq_true, beq_iff_eq] at hf
      obtain ⟨⟨⟨⟨hw, hb⟩, e2⟩, e3⟩, e4⟩ := hf
      have hw : s.w = true := hw
      obtain ⟨_, hn⟩ := next_st hm hi (q := q) hp
      have ha := go_ans hm hi h1 h9 (q := q) hw (x := x) (a := if x.kind = 4 then 2 else if x.good = true then 0 else 1) (by split; omega; split <;> omega)
        (by rcases hk with hk | hk
            · rw [if_neg (show ¬ x.kind = 4 by omega)]; split <;> simp [hk]
            · rw [if_pos hk]; simp [hk])
        (by
          by_cases k4 : x.kind = 4
          · rw [if_pos k4, hgd k4]; rfl
          · rw [if_neg k4]; cases x.good <;> rfl) (by rw [e2, hn hb]) (by rw [e3]; rfl) (by rw [e4]; show (s.w && s.ph == 1) = _; rw [hw]; rfl) hsq
      exact ⟨_, ha.2, by have := next_inv (lim := lim) (ans := if x.kind = 4 then 2 else if x.good = true then 0 else 1) (may_kinds hm) hi; unfold nextA at this; rw [if_pos hw] at this; exact this⟩
    next => cases hf
end Go.Proofs.Ytilmeffmdgcblaa
/- Books, sagas, records and lines in memory: what their slices read as; elements, fields, loads; books as rows of five cells; pairs of a book or a saga and a word. -/
namespace Go.Proofs.Ytilmeffmdgcblaa
open Go Go.RowKit
set_option maxRecDepth 8000
set_option linter.all false
def sgE (w : World) (f : Nat → Value) (p : Ug) : Prop := ∃ sv, f = sgF sv p.2 ∧ RdP w sv p.1
instance : StbE sgE := ⟨fun ⟨sv, h1, h2⟩ hN => ⟨sv, h1, hN.pairs h2⟩⟩
def rcE (w : World) (f : Nat → Value) (x : Rc) : Prop := ∃ sv dv, f = recF x sv dv ∧ RdP w sv x.steps ∧ RdV w [] dv x.data
instance : StbE rcE := ⟨fun ⟨sv, dv, h1, h2, h3⟩ hN => ⟨sv, dv, h1, hN.pairs h2, hN.rd h3⟩⟩
def lnE (_ : World) (f : Nat → Value) (p : Int × Int) : Prop := f = stepF p
instance : StbE lnE := ⟨fun h _ => h⟩
abbrev RdU := RdL 10 sgE
abbrev RdR := RdL 109 rcE
abbrev RdN := RdL 2 lnE
theorem ElTy.of' {P : Program} {sT eT : TypeId} {n : Nat} {z : Value} {d : TypeDesc} (h1 : P.underlying sT = some (.slice eT)) (h2 : (P.info? eT).map (fun i => (i.zero, i.size, decide (i.bytes ≤ 1000))) = some (some z, n, true)) (hz : z.cells.size = n) (h0 : 0 < n) (h3 : P.underlying eT = some d) (h4 : d.isRow = true) : ElTy P sT eT n := by
  refine ⟨h1, ?_, h0, d, h3, h4⟩
  cases hq : P.info? eT with
  | none => rw [hq] at h2; cases h2
  | some i => rw [hq] at h2; simp at h2; exact ⟨i, z, rfl, h2.1, h2.2.1, h2.2.2, hz⟩
theorem sagaEl : ElTy Try.prog 26 48 10 := ElTy.of' (z := .agg (rowA 10 (sgF (.slice none 0 0) zG))) Try.underlying26 (by kernel_rfl) (by rw [show (Value.agg (rowA 10 (sgF (.slice none 0 0) zG))).cells = rowA 10 (sgF (.slice none 0 0) zG) from rfl, rowA_size]) (by omega) Try.underlying48 rfl
theorem recEl : ElTy Try.prog 22 46 109 := ElTy.of' (z := .agg (rowA 109 (recF zR (.slice none 0 0) (.slice none 0 0)))) Try.underlying22 (by kernel_rfl) (by rw [show (Value.agg (rowA 109 (recF zR (.slice none 0 0) (.slice none 0 0)))).cells = rowA 109 (recF zR (.slice none 0 0) (.slice none 0 0)) from rfl, rowA_size]) (by omega) Try.underlying46 rfl
theorem lineEl : ElTy Try.prog 31 34 2 := ElTy.of' (z := .agg (rowA 2 (stepF (0, 0)))) Try.underlying31 (by kernel_rfl) (by rw [show (Value.agg (rowA 2 (stepF (0, 0)))).cells = rowA 2 (stepF (0, 0)) from rfl, rowA_size]) (by omega) Try.underlying34 rfl
/-- A place where steps lie. -/
def svStsP (l : List (Int × Int)) : SV NewT := ⟨fun v w => ∃ b o sv, v = .pointer (some ⟨b, o, none⟩) ∧ w.cell? ⟨b, o, none⟩ = some sv ∧ RdP w sv l,
  fun _ _ _ ⟨b, o, sv, h1, h2, h3⟩ hT => ⟨b, o, sv, h1, (hT.out.cell (World.block_lt_of_cell? _ _ h2)).trans h2, hT.pairs h3⟩⟩
/-- The cells of a book. -/
def bkF (ep : Nat → Int) (sv : Value) (i : Nat) : Value := if i < 4 then .int .i64 (ep i) else sv
def epF (ep : Nat → Int) (i : Nat) : Value := .int .i64 (ep i)
def epB (a b : Nat → Int) : Bool := ((a 0 == b 0 && a 1 == b 1) && a 2 == b 2) && a 3 == b 3
theorem bkF_one (ep : Nat → Int) (sv : Value) (h : sv.oneCell' = true) (i : Nat) : (bkF ep sv i).oneCell' = true := by
  unfold bkF; split; rfl; exact h
theorem bkF_ep {ep : Nat → Int} {sv : Value} {k : Nat} (h : k < 4) : bkF ep sv k = .int .i64 (ep k) := if_pos h
theorem bs_sg (ep : Nat → Int) (sv z : Value) (i : Nat) (hi : i < 5) : bkF ep z i = if i = 4 then z else bkF ep sv i := by
  unfold bkF
  by_cases h : i = 4
  · rw [if_neg (by omega), if_pos h]
  · rw [if_pos (by omega), if_neg h, if_pos (by omega)]
theorem bs_ep (ep : Nat → Int) (sv : Value) (k : Nat) (z : Int) (hk : k < 4) (i : Nat) (_ : i < 5) : bkF (fun j => if j = k then z else ep j) sv i = if i = k then .int .i64 z else bkF ep sv i := by
  unfold bkF
  by_cases h : i = k
  · subst h; rw [if_pos hk, if_pos rfl]; show Value.int .i64 (if i = i then z else ep i) = _; rw [if_pos rfl]
  · rw [if_neg h]; show (if i < 4 then Value.int .i64 (if i = k then z else ep i) else sv) = _; rw [if_neg h]
def BkV (w : World) (v : Value) (K : Bk) : Prop := ∃ sv, v = .agg (rowA 5 (bkF K.ep sv)) ∧ RdU w sv K.sg
theorem BkV.new {w w' : World} {v : Value} {K : Bk} (h : BkV w v K) (hN : NewT w w') : BkV w' v K := by
  obtain ⟨sv, h1, h2⟩ := h; exact ⟨sv, h1, h2.new hN⟩
theorem info_book : (Try.prog.info? 28).map (·.size) = some 5 := by kernel_rfl
theorem info_ep4 : (Try.prog.info? 25).map (·.size) = some 4 := by kernel_rfl
theorem info_ep5 : (Try.prog.info? 25).map (·.size) = some (3 + 1) := by kernel_rfl
theorem info_us1 : (Try.prog.info? 26).map (·.size) = some (0 + 1) := by kernel_rfl
theorem info_us : (Try.prog.info? 26).map (·.size) = some 1 := by kernel_rfl
theorem info_line : (Try.prog.info? 34).map (·.size) = some 2 := by kernel_rfl
theorem run_alloc_book (w : World) : (Instr.alloc 28 true (.tuple #[])).run Try.prog w = .ok (.pointer (some ⟨w.heap.size, 0, none⟩)) (w.alloc (.cells (rowA 5 (bkF zK.ep (.slice none 0 0))) 28)) := by kernel_rfl
theorem run_alloc_line (w : World) : (Instr.alloc 34 true (.tuple #[])).run Try.prog w = .ok (.pointer (some ⟨w.heap.size, 0, none⟩)) (w.alloc (.cells (rowA 2 (stepF (0, 0))) 34)) := by kernel_rfl
theorem build_book0 (w : World) : (Instr.build 28 #[]).run Try.prog w = .ok (.agg (rowA 5 (bkF zK.ep (.slice none 0 0)))) w := by kernel_rfl
section
variable {a : Act} {w : World} {o : Oper} {K : Act → World → Prop} {Q : Exit → Act → World → Prop} {x y : Operand} {g : Nat} {t' : TypeId} {F : Nat → Value}
theorem opr_ldUg {p : Ug} (ho : o.op = .load 48 x) (hx : (svEl 10 sgE p).pred (a.eval x) w) (h : ∀ v, (svSg p.1 p.2).pred v w → K (a.put o.dst v) w) : o.wp Try.prog a w K Q :=
  opr_ldL sagaEl ho hx fun v ⟨_, h1, sv, h2, h3⟩ => h v ⟨sv, by rw [h1, h2], h3⟩
theorem opr_ldRcE {p : Rc} (ho : o.op = .load 46 x) (hx : (svEl 109 rcE p).pred (a.eval x) w) (h : ∀ v, (svRec p).pred v w → K (a.put o.dst v) w) : o.wp Try.prog a w K Q :=
  opr_ldL recEl ho hx fun v ⟨_, h1, sv, dv, h2, h3, h4⟩ => h v ⟨sv, dv, by rw [h1, h2], h3, h4⟩
theorem opr_ldLn {p : Int × Int} (ho : o.op = .load 34 x) (hx : (svEl 2 lnE p).pred (a.eval x) w) (h : K (a.put o.dst (.agg (rowA 2 (stepF p)))) w) : o.wp Try.prog a w K Q :=
  opr_ldL lineEl ho hx fun v ⟨_, h1, h2⟩ => by rw [h1, show _ = stepF p from h2]; exact h
theorem opr_fldE {α : Type} {E : World → (Nat → Value) → α → Prop} [StbE E] {p : α} {n t k off m : Nat} {fs : Array Field} {f : Field} (hu : Try.prog.underlying t = some (.struct fs)) (hk : fs[k]? = some f) (hs : (Try.prog.info? f.type).map (·.size) = some (m + 1)) (hoff : f.offset = off) (hlt : off < n) (ho : o.op = .fieldAddr t x k) (hx : (svEl n E p).pred (a.eval x) w)
    (h : ∀ v b o1 F, v = .pointer (some ⟨b, o1, none⟩) → w.cell? ⟨b, o1, none⟩ = some (F off) → E w F p → K (a.put o.dst v) w) : o.wp Try.prog a w K Q := by
  obtain ⟨b, o1, F, hv, hc, hE⟩ := hx
  exact opr_fld hu hk hs ho hv (by rw [hoff]) (h _ b (o1 + off) F rfl (hc (by omega) off hlt) hE)
theorem opr_fldUe1 {p : Ug} (ho : o.op = .fieldAddr 48 x 1) (hx : (svEl 10 sgE p).pred (a.eval x) w) (h : ∀ v, (svIp p.2.ph).pred v w → K (a.put o.dst v) w) : o.wp Try.prog a w K Q :=
  opr_fldE Try.underlying48 rfl info_int rfl (by decide) ho hx fun v b o1 F hv hc ⟨sv, hF, _⟩ => h v ⟨b, o1, hv, by rw [hc, hF]; rfl⟩
theorem opr_fldUe0 {p : Ug} (ho : o.op = .fieldAddr 48 x 0) (hx : (svEl 10 sgE p).pred (a.eval x) w) (h : ∀ v, (svStsP p.1).pred v w → K (a.put o.dst v) w) : o.wp Try.prog a w K Q :=
  opr_fldE Try.underlying48 rfl info_steps1 rfl (by decide) ho hx fun v b o1 F hv hc ⟨sv, hF, hp⟩ => h v ⟨b, o1, sv, hv, by rw [hc, hF]; rfl, hp⟩
theorem opr_fldRe0 {p : Rc} (ho : o.op = .fieldAddr 46 x 0) (hx : (svEl 109 rcE p).pred (a.eval x) w) (h : ∀ v, (svIp p.kind).pred v w → K (a.put o.dst v) w) : o.wp Try.prog a w K Q :=
  opr_fldE Try.underlying46 rfl info_int rfl (by decide) ho hx fun v b o1 F hv hc ⟨sv, dv, hF, _⟩ => h v ⟨b, o1, hv, by rw [hc, hF]; rfl⟩
theorem opr_fldRe1 {p : Rc} (ho : o.op = .fieldAddr 46 x 1) (hx : (svEl 109 rcE p).pred (a.eval x) w) (h : ∀ v, (svIp p.saga).pred v w → K (a.put o.dst v) w) : o.wp Try.prog a w K Q :=
  opr_fldE Try.underlying46 rfl info_int rfl (by decide) ho hx fun v b o1 F hv hc ⟨sv, dv, hF, _⟩ => h v ⟨b, o1, hv, by rw [hc, hF]; rfl⟩
theorem opr_fldNe0 {p : Int × Int} (ho : o.op = .fieldAddr 34 x 0) (hx : (svEl 2 lnE p).pred (a.eval x) w) (h : ∀ v, (svIp p.1).pred v w → K (a.put o.dst v) w) : o.wp Try.prog a w K Q :=
  opr_fldE Try.underlying34 rfl info_int rfl (by decide) ho hx fun v b o1 F hv hc hF => h v ⟨b, o1, hv, by rw [hc, show F = stepF p from hF]; rfl⟩
theorem opr_ldSts {l : List (Int × Int)} (ho : o.op = .load 43 x) (hx : (svStsP l).pred (a.eval x) w) (h : ∀ v, (svPairs l).pred v w → K (a.put o.dst v) w) : o.wp Try.prog a w K Q := by
  obtain ⟨b, o1, sv, hv, hc, hp⟩ := hx
  exact opr_ld1 Try.underlying43 rfl ho hv hc (h sv hp)
theorem opr_fldK0 (ho : o.op = .fieldAddr 28 x 0) (hx : a.eval x = .pointer (some ⟨g, 0, none⟩)) (h : K (a.put o.dst (.pointer (some ⟨g, 0, none⟩))) w) : o.wp Try.prog a w K Q := opr_fld Try.underlying28 rfl info_ep5 ho hx (by rfl) h
theorem opr_fldK1 (ho : o.op = .fieldAddr 28 x 1) (hx : a.eval x = .pointer (some ⟨g, 0, none⟩)) (h : K (a.put o.dst (.pointer (some ⟨g, 4, none⟩))) w) : o.wp Try.prog a w K Q := opr_fld Try.underlying28 rfl info_us1 ho hx (by rfl) h
theorem opr_fldN0 (ho : o.op = .fieldAddr 34 x 0) (hx : a.eval x = .pointer (some ⟨g, 0, none⟩)) (h : K (a.put o.dst (.pointer (some ⟨g, 0, none⟩))) w) : o.wp Try.prog a w K Q := opr_fld Try.underlying34 rfl info_int ho hx (by rfl) h
theorem opr_ldK (hr : w.rowIs g t' 5 F) (ho : o.op = .load 28 x) (hx : a.eval x = .pointer (some ⟨g, 0, none⟩)) (h : K (a.put o.dst (.agg (rowA 5 F))) w) : o.wp Try.prog a w K Q :=
  opr_ldm Try.underlying28 rfl info_book ho hx hr (by omega) (by rw [rowA_congr (g := F) fun i _ => by rw [Nat.zero_add]]; exact h)
theorem opr_ldN (hr : w.rowIs g t' 2 F) (ho : o.op = .load 34 x) (hx : a.eval x = .pointer (some ⟨g, 0, none⟩)) (h : K (a.put o.dst (.agg (rowA 2 F))) w) : o.wp Try.prog a w K Q :=
  opr_ldm Try.underlying34 rfl info_line ho hx hr (by omega) (by rw [rowA_congr (g := F) fun i _ => by rw [Nat.zero_add]]; exact h)
theorem opr_ldUs {n o0 : Nat} {v : Value} (hr : w.rowIs g t' n F) (hn : o0 < n) (hv : F o0 = v) (ho : o.op = .load 26 x) (hx : a.eval x = .pointer (some ⟨g, o0, none⟩)) (h : K (a.put o.dst v) w) : o.wp Try.prog a w K Q :=
  opr_ld1 Try.underlying26 rfl ho hx (by rw [hr.cell hn, hv]) h
theorem opr_ldEp {ep : Nat → Int} {sv : Value} (hr : w.rowIs g t' 5 (bkF ep sv)) (ho : o.op = .load 25 x) (hx : a.eval x = .pointer (some ⟨g, 0, none⟩)) (h : K (a.put o.dst (.agg (rowA 4 (epF ep)))) w) : o.wp Try.prog a w K Q :=
  opr_ldm Try.underlying25 rfl info_ep4 ho hx hr (by omega) (by rw [rowA_congr (g := epF ep) fun i hi => by rw [Nat.zero_add]; exact bkF_ep hi]; exact h)
theorem opr_idxEp {k : Nat} {n : Int} (hk : k < 4) (hn : n = (k : Int)) (ho : o.op = .indexAddr 25 x y) (hx : a.eval x = .pointer (some ⟨g, 0, none⟩)) (hy : a.eval y = .int .i64 n) (h : K (a.put o.dst (.pointer (some ⟨g, k, none⟩))) w) : o.wp Try.prog a w K Q := by
  subst hn
  obtain ⟨dst, op, type, pos, after, guard⟩ := o
  simp only at ho
  subst ho
  have hs : (sizeOf 3).run Try.prog w = .ok 1 w := by
    have hs := info_int
    cases hq : Try.prog.info? 3 with
    | none => simp [hq] at hs
    | some i => simp [hq] at hs; simp [sizeOf, typeInfo, hq, hs]
  refine opr_val (s := Instr.indexAt 25 (a.eval x) (a.eval y)) (v := .pointer (some ⟨g, k, none⟩)) rfl ?_ h
  rw [hx, hy]
  simp [Instr.indexAt, asIntOf, run_underlying Try.underlying25, hk, hs, Addr.add_mid, Instr.sureAddr]
theorem equalIn_ep (w : World) (p q : Nat → Int) : (Op.equalIn 10000 25 (.agg (rowA 4 (epF p))) (.agg (rowA 4 (epF q)))).run Try.prog w = .ok (epB p q) w := by
  rw [show epB p q = ((List.range 4).all fun i => p i == q i) by unfold epB; simp [List.range, List.range.loop, Bool.and_assoc]]
  exact equalIn_arr w 9998 25 3 4 .i64 Try.underlying25 Try.underlying3 info_i1 p q
theorem eqType_ep : Try.prog.eqGuardType Try.prog.depth 25 = false := by kernel_rfl
theorem opr_eqlEp {p q : Nat → Int} {t2 : TypeId} (ho : o.op = .binOp .eql 25 x y t2) (hx : a.eval x = .agg (rowA 4 (epF p))) (hy : a.eval y = .agg (rowA 4 (epF q))) (h : K (a.put o.dst (.bool (epB p q))) w) : o.wp Try.prog a w K Q := by
  obtain ⟨dst, op', type, pos, after, guard⟩ := o
  simp only at ho
  subst ho
  refine opr_val (s := do eqGuard .eql 25 x y (a.eval x) (a.eval y); binOp .eql 25 (a.eval x) (a.eval y)) rfl ?_ h
  rw [hx, hy, Sem.run_bind, run_eqGuard_agg _ _ _ _ _ _ _ eqType_ep]
  simp only [Result.andThen_ok]
  rw [run_eql_struct, equalIn_ep]; rfl
theorem opr_neqEp {p q : Nat → Int} {t2 : TypeId} (ho : o.op = .binOp .neq 25 x y t2) (hx : a.eval x = .agg (rowA 4 (epF p))) (hy : a.eval y = .agg (rowA 4 (epF q))) (h : K (a.put o.dst (.bool (!epB p q))) w) : o.wp Try.prog a w K Q := by
  obtain ⟨dst, op', type, pos, after, guard⟩ := o
  simp only at ho
  subst ho
  refine opr_val (s := do eqGuard .neq 25 x y (a.eval x) (a.eval y); binOp .neq 25 (a.eval x) (a.eval y)) rfl ?_ h
  rw [hx, hy, Sem.run_bind, run_eqGuard_agg _ _ _ _ _ _ _ eqType_ep]
  simp only [Result.andThen_ok]
  rw [run_neq_struct, equalIn_ep]; rfl
theorem eqType_line : Try.prog.eqGuardType Try.prog.depth 34 = false := by kernel_rfl
theorem equalIn_line (w : World) (s t : Int × Int) : (Op.equalIn 10000 34 (.agg (rowA 2 (stepF s))) (.agg (rowA 2 (stepF t)))).run Try.prog w = .ok (decide (s = t)) w := by
  rw [show rowA 2 (stepF s) = #[.int .i64 s.1, .int .i64 s.2] from rfl, show rowA 2 (stepF t) = #[.int .i64 t.1, .int .i64 t.2] from rfl]
  obtain ⟨s1, s2⟩ := s
  obtain ⟨t1, t2⟩ := t
  rw [run_equalIn_agg w 9999 34 _ _ (by kernel_rfl) (by kernel_rfl)]
  by_cases h1 : s1 = t1
  · by_cases h2 : s2 = t2
    · subst h1 h2; simp [go_sem]
    · subst h1; simp [go_sem, h2]
  · simp [go_sem, h1]
theorem opr_neqLn {t2 : TypeId} {s t : Int × Int} {b : Bool} (hb : (!decide (s = t)) = b) (ho : o.op = .binOp .neq 34 x y t2) (hx : a.eval x = .agg (rowA 2 (stepF s))) (hy : a.eval y = .agg (rowA 2 (stepF t))) (h : K (a.put o.dst (.bool b)) w) : o.wp Try.prog a w K Q := by
  obtain ⟨dst, op', type, pos, after, guard⟩ := o
  simp only at ho
  subst ho hb
  refine opr_val (s := do eqGuard .neq 34 x y (a.eval x) (a.eval y); binOp .neq 34 (a.eval x) (a.eval y)) rfl ?_ h
  rw [hx, hy, Sem.run_bind, run_eqGuard_agg _ _ _ _ _ _ _ eqType_line]
  simp only [Result.andThen_ok]
  rw [run_neq_struct, equalIn_line]; rfl
theorem opr_eqlLn {t2 : TypeId} {s t : Int × Int} {b : Bool} (hb : decide (s = t) = b) (ho : o.op = .binOp .eql 34 x y t2) (hx : a.eval x = .agg (rowA 2 (stepF s))) (hy : a.eval y = .agg (rowA 2 (stepF t))) (h : K (a.put o.dst (.bool b)) w) : o.wp Try.prog a w K Q := by
  obtain ⟨dst, op', type, pos, after, guard⟩ := o
  simp only at ho
  subst ho hb
  refine opr_val (s := do eqGuard .eql 34 x y (a.eval x) (a.eval y); binOp .eql 34 (a.eval x) (a.eval y)) rfl ?_ h
  rw [hx, hy, Sem.run_bind, run_eqGuard_agg _ _ _ _ _ _ _ eqType_line]
  simp only [Result.andThen_ok]
  rw [run_eql_struct, equalIn_line]; rfl
end
end Go.Proofs.Ytilmeffmdgcblaa
/- Package book's map of ways, made anew at each call, and asked; sagas' slices cloned. -/
namespace Go.Proofs.Ytilmeffmdgcblaa
open Go Go.RowKit
set_option maxRecDepth 8000
set_option linter.all false
theorem heap_setObj (W : World) (b : Nat) (o : Obj) : Below b W { W with heap := W.heap.setIfInBounds b o } :=
  ⟨rfl, rfl, rfl, by simp, fun k hk => by simp only [Array.getElem?_setIfInBounds_ne (show b ≠ k by omega)]⟩
theorem run_insI (W : World) {b clock : Nat} {es : Array MapEntry} {k : Int} {v : Value} (hb : W.heap[b]? = some (.map es clock)) (hf : Instr.findNow (.int .i64) (.int .i64 k) es.toList 0 = some none) :
    (Instr.mapUpdate 75 (.map (some b)) (.int .i64 k) v).run Try.prog W = .ok () { W with heap := W.heap.setIfInBounds b (.map (es.push { key := .int .i64 k, val := v, born := clock }) (clock + 1)) } := by
  have hk := Try.underlying3
  have hc : (Instr.checkKey false 10000 3 (.int .i64 k)).run Try.prog W = .ok () W := MapKept.run_checkKey (k := .int .i64 k) hk (by simp [MapKept.IsKey]) false 9999
  simp [Instr.mapUpdate, run_underlying Try.underlying75, MapKept.run_getObj_map hb, hc, MapKept.run_findKey hk hf, MapKept.run_setObj_map _ hb, Result.andThen]
section
variable {a : Act} {w : World} {o : Oper} {K : Act → World → Prop} {Q : Exit → Act → World → Prop} {x y z : Operand}
theorem opr_ins {b clock : Nat} {es : Array MapEntry} {k : Int} {v : Value} (ho : o.op = .insert 75 x y z) (hx : a.eval x = .map (some b)) (hy : a.eval y = .int .i64 k) (hz : a.eval z = v) (hb : w.heap[b]? = some (.map es clock)) (hf : Instr.findNow (.int .i64) (.int .i64 k) es.toList 0 = some none)
    (h : ∀ w', Below b w w' → w'.heap[b]? = some (.map (es.push { key := .int .i64 k, val := v, born := clock }) (clock + 1)) → K (a.put o.dst undef) w') : o.wp Try.prog a w K Q := by
  obtain ⟨dst, op, type, pos, after, guard⟩ := o
  simp only at ho
  subst ho
  have hlt : b < w.heap.size := (Array.getElem?_eq_some_iff.1 hb).1
  refine opr_unit (s := Instr.mapUpdate 75 (a.eval x) (a.eval y) (a.eval z)) rfl ?_ (h _ (heap_setObj w b (.map (es.push { key := .int .i64 k, val := v, born := clock }) (clock + 1))) (by simp [hlt]))
  rw [hx, hy, hz]
  exact run_insI w hb hf
theorem opr_mkMap (ho : o.op = .makeMap 75 none) (h : ∀ w', NewT w w' → w'.heap[w.heap.size]? = some (.map #[] 0) → K (a.put o.dst (.map (some w.heap.size))) w') : o.wp Try.prog a w K Q := by
  obtain ⟨dst, op, type, pos, after, guard⟩ := o
  simp only at ho
  subst ho
  exact opr_val (s := Instr.makeMap 75 none) (by simp [execOp]) (run_makeMap_plain w _) (h _ (NewT.alloc _ _) (World.alloc_heap_new _ _))
end
/-- A kind's way. -/
def wayF (k : Int) : Nat := if k = 1 then 59 else if k = 3 then 61 else if k = 6 then 62 else 60
def wayL : List (Int × Nat) := [(1, 59), (2, 60), (3, 61), (4, 60), (5, 60), (6, 62)]
def svWays : SV NewT := ⟨fun v w => ∃ b es c, v = .map (some b) ∧ w.heap[b]? = some (.map es c) ∧ es.toList.map (fun e => (e.key, e.val)) = wayL.map fun p => (.int .i64 p.1, .func (.func p.2) #[] #[]),
  fun _ _ _ ⟨b, es, c, h1, h2, h3⟩ hT => ⟨b, es, c, h1, (hT.out.block b (Array.getElem?_eq_some_iff.1 h2).1).trans h2, h3⟩⟩
set_option maxHeartbeats 1000000 in
theorem ways_cv (w : World) : Cv 44 #[] w svWays := by
  unfold Cv
  go_enter Try.func44, Try.ntmps44
  go_upto_region 1 with fail
  refine wp_region_lit ?_
  refine wpList_plain rfl (fun K hK => ?_)
  refine opr_mkMap rfl (fun w0 hN hb => hK _ _ ?_)
  clear hK K
  simp only [Act.put, List.setIfInBounds_toArray, List.set_cons_zero, List.set_cons_succ]
  obtain ⟨b, hbe⟩ : ∃ b, w.heap.size = b := ⟨_, rfl⟩
  rw [hbe] at hb ⊢
  have hM : NewT w w0 := hN
  clear hN
  iterate 6
    refine wpList_plain rfl (fun K hK => ?_)
    refine opr_ins rfl rfl rfl rfl hb (by simp [Instr.findNow, Instr.sameNow]) (fun w1 hB hb1 => hK _ _ ?_)
    clear hK K
    simp only [Act.put, List.setIfInBounds_toArray, List.set_cons_zero, List.set_cons_succ]
    replace hM : NewT w w1 := NewT.of (hM.out.trans (hB.mono (by omega)))
    replace hb := hb1
    clear hB hb1
  iterate 2
    refine wpList_plain rfl (fun K hK => ?_)
    refine opr_move (by first | exact .inl rfl | exact .inr rfl) (hK _ _ ?_)
    clear hK K
    simp only [Act.put, List.setIfInBounds_toArray, List.set_cons_zero, List.set_cons_succ]
  refine wpList_nil ?_
  go_simp
  go_wp2
  go_ret
  exact ⟨_, rfl, hM, b, _, _, rfl, hb, by simp [wayL, eval_func]⟩
theorem findNow_at (k : Int) : ∀ (es : List MapEntry) (l : List (Int × Nat)) (i : Nat) (f : Nat), es.map (fun e => (e.key, e.val)) = l.map (fun p => ((.int .i64 p.1 : Value), (.func (.func p.2) #[] #[] : Value))) → l.lookup k = some f → ∃ j, Instr.findNow (.int .i64) (.int .i64 k) es i = some (some (j, .func (.func f) #[] #[]))
  | [], [], i, f, _, h => by cases h
  | [], _ :: _, _, _, h, _ => by cases h
  | _ :: _, [], _, _, h, _ => by cases h
  | e :: es, p :: l, i, f, h, hl => by
    simp only [List.map_cons, List.cons.injEq, Prod.mk.injEq] at h
    obtain ⟨⟨h1, h2⟩, h3⟩ := h
    obtain ⟨p1, p2⟩ := p
    unfold Instr.findNow
    rw [h1, h2]
    simp only [Instr.sameNow, if_true]
    rw [List.lookup_cons] at hl
    by_cases e1 : k = p1
    · subst e1
      simp at hl
      subst hl
      exact ⟨i, by simp⟩
    · rw [beq_eq_false_iff_ne.2 e1] at hl ⊢
      exact findNow_at k es l (i + 1) f h3 hl
theorem way_look (k : Int) (h : 1 ≤ k ∧ k ≤ 6) : wayL.lookup k = some (wayF k) := by
  have : k = 1 ∨ k = 2 ∨ k = 3 ∨ k = 4 ∨ k = 5 ∨ k = 6 := by omega
  rcases this with rfl | rfl | rfl | rfl | rfl | rfl <;> rfl
theorem opr_lookW {a : Act} {w : World} {o : Oper} {K : Act → World → Prop} {Q : Exit → Act → World → Prop} {x y : Operand} {k : Int} {f : Nat} (hf : wayF k = f) (hk : 1 ≤ k ∧ k ≤ 6) (ho : o.op = .lookup 75 x y false) (hx : svWays.pred (a.eval x) w) (hy : a.eval y = .int .i64 k) (h : K (a.put o.dst (.func (.func f) #[] #[])) w) : o.wp Try.prog a w K Q := by
  subst hf
  obtain ⟨dst, op, type, pos, after, guard⟩ := o
  simp only at ho
  subst ho
  obtain ⟨b, es, c, h1, h2, h3⟩ := hx
  obtain ⟨j, hj⟩ := findNow_at k es.toList wayL 0 _ h3 (way_look k hk)
  refine opr_val (s := Instr.lookup 75 (a.eval x) (a.eval y) false) (by simp [execOp]) ?_ h
  rw [h1, hy]
  have hi := Try.underlying3
  have hc : (Instr.checkKey es.isEmpty 10000 3 (.int .i64 k)).run Try.prog w = .ok () w := MapKept.run_checkKey (k := .int .i64 k) hi (by simp [MapKept.IsKey]) _ 9999
  simp [Instr.lookup, run_underlying Try.underlying75, MapKept.run_getObj_map h2, hc, MapKept.run_findKey hi hj, Result.andThen]
/-- Sagas' slices cloned: the rows as they were, in a block of the call's own. -/
theorem CloneU_cv (v : Value) (fs : List (Nat → Value)) (w : World) (h : RdE 10 w v fs) (h1 : OneE 10 fs) (hl : fs.length ≤ 900000) : Cv 41 #[v] w ⟨fun u w' => OwnE 48 10 w' w.heap.size u fs, fun _ _ _ h hT => h.new hT⟩ := by
  unfold Cv
  have hh := h
  obtain ⟨A, cap, rfl, k1, k2, k3⟩ := h
  have hq : ∀ (w : World) (a : Option Addr) (n c n' c' : Nat), (binOp .eql 26 (.slice a n c) (.slice none n' c')).run Try.prog w = .ok (.bool a.isNone) w := fun w a n c n' c' => Lib.run_eql_slice_nil w _ _ a n c n' c' Try.underlying26
  cases A with
  | none =>
    have h0 : fs = [] := by
      cases fs with
      | nil => rfl
      | cons b l => obtain ⟨_, _, h, _⟩ := k3 (by simp); cases h
    subst h0
    clear k3 hh
    go_enter Try.func41, Try.ntmps41
    go_wp2
    go_ret
    exact ⟨_, rfl, NewT.refl _, ownE_nil _ _⟩
  | some a =>
    have hN := NewT.alloc w (.cells #[] 48)
    have o0 : OwnE 48 10 (w.alloc (.cells #[] 48)) w.heap.size (.slice (some ⟨w.heap.size, 0, none⟩) 0 0) [] :=
      ⟨rfl, .inr ⟨w.heap.size, 0, #[], rfl, Nat.le_refl _, World.alloc_heap_new _ _, Nat.le_refl _, by unfold maxLen; omega, rfl, rfl⟩⟩
    obtain ⟨v', w', hr, ho', hg⟩ := run_appE sagaEl o0 (hh.new hN) h1 (by simp; omega) hN.out.size 26
    have hB : Below w.heap.size w w' := hN.out.grown hg hN.out.size (fun k e => by simp [Value.ownBlock] at e; omega)
    have Ho := Lib.hid ho'
    clear k3 hh hN o0 hg ho'
    go_enter Try.func41, Try.ntmps41
    go_upto_region 3 with fail
    refine wp_region_lit ?_
    iterate 2 (refine wpList_plain rfl (fun K hK => ?_); go_simp; refine hK _ _ ?_; clear hK K)
    refine wpList_plain rfl (fun K hK => ?_)
    refine opr_append rfl rfl rfl hr (hK _ _ ?_)
    clear hK K
    refine wpList_plain rfl (fun K hK => ?_)
    refine opr_move (.inr rfl) (hK _ _ ?_)
    clear hK K
    refine wpList_nil ?_
    go_simp
    go_wp2
    go_ret
    exact ⟨_, rfl, hB, Ho.out⟩
end Go.Proofs.Ytilmeffmdgcblaa
/- Package saga: whose call is due; what is due; whether a record goes; the saga behind it. -/
namespace Go.Proofs.Ytilmeffmdgcblaa
open Go Go.RowKit
set_option maxRecDepth 8000
set_option linter.all false
attribute [local go_sem] run_zero_rec
theorem results_tt {P : Program} {fn : Func} {tmps : Array Value} {w : World} {p q : Tmp} {x y : Value} (hf : fn.results = #[.tmp p, .tmp q]) (hp : tmps.getD p undef = x) (hq : tmps.getD q undef = y) : (results fn tmps).run P w = .ok (.tuple #[x, y]) w := by
  have hp' : tmps[p]?.getD undef = x := by simpa using hp
  have hq' : tmps[q]?.getD undef = y := by simpa using hq
  simp [results, hf, hp', hq']
theorem lastT_lt {f : Nat → Bool} {i : Nat} : ∀ {n : Nat}, lastT f n = some i → i < n ∧ f i = true
  | 0, h => by cases h
  | n + 1, h => by
    unfold lastT at h
    by_cases e : f n = true
    · rw [if_pos e] at h
      cases h
      exact ⟨Nat.lt_succ_self _, e⟩
    · rw [if_neg e] at h
      have := lastT_lt h
      exact ⟨by omega, this.2⟩
theorem next_range {l : List (Int × Int)} {g : Sg} (h : nextB l g = true) : 0 ≤ nextI l g ∧ nextI l g < l.length := by
  unfold nextB at h
  unfold nextI
  by_cases e : g.ph = 1
  · rw [if_pos e] at h ⊢
    cases ht : tgtO l g with
    | none => rw [ht] at h; cases h
    | some i => have := (lastT_lt ht).1; show 0 ≤ (i : Int) ∧ (i : Int) < _; omega
  · rw [if_neg e] at h ⊢
    rw [if_pos h]
    have := (inR_iff _ _ _).1 h
    omega
/-- A record that fits tells of a step that is there. -/
theorem fits_pre {l : List (Int × Int)} {lim : Int} {g : Sg} {x : Rc} (hl : 1 ≤ l.length) (h : fitsB l lim g x = true) : (0 ≤ x.step ∧ x.step < l.length) ∧ (x.kind = 2 ∨ x.kind = 5 ∨ x.kind = 3 ∨ x.kind = 4) := by
  unfold fitsB at h
  split at h
  · rename_i hk
    unfold isDueB at h
    simp only [Bool.and_eq_true, beq_iff_eq] at h
    refine ⟨?_, by omega⟩
    rw [h.1.1.1.2]
    unfold dueX
    split
    · split
      · rename_i hb
        split
        · exact next_range hb
        · show (0 : Int) ≤ 0 ∧ (0 : Int) < _; omega
      · split <;> (show (0 : Int) ≤ 0 ∧ (0 : Int) < _; omega)
    · show (0 : Int) ≤ 0 ∧ (0 : Int) < _; omega
  · split at h
    · rename_i hk
      unfold isOutB at h
      simp only [Bool.and_eq_true, beq_iff_eq] at h
      refine ⟨?_, by omega⟩
      rw [h.1.1.2]
      exact next_range h.1.1.1.2
    · cases h
set_option maxHeartbeats 4000000 in
theorem next_cv (sv : Value) (l : List (Int × Int)) (g : Sg) (w : World) (hs : RdP w sv l) (hl : l.length ≤ 6) : Cv 64 #[.agg (rowA 10 (sgF sv g))] w (.eq (.tuple #[.int .i64 (nextI l g), .bool (nextB l g)])) := by
  unfold Cv
  have HS := Lib.hid hs
  have HL6 := Lib.hid hl
  clear hs hl
  go_enter Try.func64, Try.ntmps64
  go_upto_region 1 with fail
  have r_g1 := rowIs_box w 48 10 (sgF sv g)
  have hN : NewT w (w.alloc (.cells (rowA 10 (sgF sv g)) 48)) := NewT.alloc _ _
  change Code.wp _ _ _ _ (w.alloc (.cells (rowA 10 (sgF sv g)) 48))
  generalize (w.alloc (.cells (rowA 10 (sgF sv g)) 48)) = W0 at r_g1 hN ⊢
  obtain ⟨g1, h_g1⟩ : ∃ g_, w.heap.size = g_ := ⟨_, rfl⟩
  have HG : Hid (w.heap.size ≤ g1) := Lib.hid (by omega)
  rw [h_g1] at r_g1
  simp only [h_g1]
  have Rg1 := Lib.hid r_g1
  have HM := Lib.hid hN
  clear r_g1 hN h_g1
  go_upto_region 1 with fail
  refine wp_region_steps0 NewT [SV.eq (.pointer (some ⟨g1, 1, none⟩)), SV.eq (.int .i64 (g.ph)), SV.eq (.bool (g.ph == 1))] [([(1, none)], none), ([(4, some 0)], none), ([(5, some 1)], none)] 21 3 rfl rfl (by kernel_rfl) NewT.trans (NewT.refl _) (Nat.le_of_ble_eq_true rfl) ⟨?_, ?_, ?_, trivial⟩ ?_
  · exact fun a wx hT hF K hK => rely_wp rfl (opr_fldU1 rfl hF.1 (hK _ _ (NewT.refl _) rfl))
  · exact fun a wx hT hF K hK => rely_wp rfl (opr_ldI (hT.row Rg1.out) (by decide) rfl rfl hF.1 (hK _ _ (NewT.refl _) rfl))
  · exact fun a wx hT hF K hK => rely_wp rfl (opr_cmp (b := g.ph == 1) (.inl ⟨rfl, rfl⟩) Try.underlying3 rfl hF.1 rfl (hK _ _ (NewT.refl _) rfl))
  · intro w1 k1
    iterate 3 (intro u h; obtain rfl := Eq.symm (h (by simp)); clear h)
    refine relyEnd_nil rfl ?_
    refine wpList_end rfl ?_
    simp only [Act.put, List.setIfInBounds_toArray, List.set_cons_zero, List.set_cons_succ]
    go_simp
    replace Rg1 := Lib.hid (k1.row Rg1.out)
    replace HM := Lib.hid (NewT.trans _ _ _ HM.out k1)
    clear k1
    cases hb : (g.ph == 1)
    · have HE : Hid (nextI l g = (if inR g.at_ 0 ((l.length : Int) - 1) = true then g.at_ else 0) ∧ nextB l g = inR g.at_ 0 ((l.length : Int) - 1)) := Lib.hid (by
        have hb' : ¬ g.ph = 1 := by simpa using hb
        exact ⟨by unfold nextI; rw [if_neg hb'], by unfold nextB; rw [if_neg hb']⟩)
      clear hb
      go_upto_region 3 with fail
      refine wp_region_steps0 NewT [SV.eq (.pointer (some ⟨g1, 2, none⟩)), SV.eq (.int .i64 (g.at_)), SV.eq (.pointer (some ⟨g1, 0, none⟩)), SV.eq (sv), SV.eq (.int .i64 ((List.length (l) : Int))), SV.eq (.int .i64 ((l.length : Int) - 1)), SV.eq (.bool (inR g.at_ 0 ((l.length : Int) - 1))), SV.eq (.bool (!(inR g.at_ 0 ((l.length : Int) - 1))))] [([(1, none)], none), ([(11, some 0)], none), ([(1, none)], none), ([(13, some 2)], none), ([(14, some 3)], none), ([(15, some 4)], none), ([(12, some 1), (16, some 5)], none), ([(17, some 6)], none)] 21 8 rfl rfl (by kernel_rfl) NewT.trans (NewT.refl _) (Nat.le_of_ble_eq_true rfl) ⟨?_, ?_, ?_, ?_, ?_, ?_, ?_, ?_, trivial⟩ ?_
      · exact fun a wx hT hF K hK => rely_wp rfl (opr_fldU2 rfl hF.1 (hK _ _ (NewT.refl _) rfl))
      · exact fun a wx hT hF K hK => rely_wp rfl (opr_ldI (hT.row Rg1.out) (by decide) rfl rfl hF.1 (hK _ _ (NewT.refl _) rfl))
      · exact fun a wx hT hF K hK => rely_wp rfl (opr_fldU0 rfl hF.1 (hK _ _ (NewT.refl _) rfl))
      · exact fun a wx hT hF K hK => rely_wp rfl (opr_ldS (hT.row Rg1.out) (by decide) rfl rfl hF.1 (hK _ _ (NewT.refl _) rfl))
      · intro a wx hT hF K hK
        obtain ⟨f14, _⟩ := hF
        have f14 : a.tmps.getD 14 undef = sv := f14
        refine rely_wp rfl ?_
        exact opr_len_pairs rfl (by rw [eval_tmp, f14]; exact ((NewT.trans _ _ _ HM.out hT).pairs HS.out)) (hK _ _ (NewT.refl _) rfl)
      · exact fun a wx hT hF K hK => rely_wp rfl (opr_sub (r := (l.length : Int) - 1) Try.underlying3 (by have := HL6.out; unfold wrap64; omega) rfl hF.1 rfl (hK _ _ (NewT.refl _) rfl))
      · exact fun a wx hT hF K hK => rely_wp rfl (opr_cv (gWithin_cv g.at_ 0 ((l.length : Int) - 1) wx) rfl Try.func50 (by kernel_rfl) (by kernel_rfl) (evs3 hF.1 rfl hF.2.1) hK)
      · exact fun a wx hT hF K hK => rely_wp rfl (opr_not rfl hF.1 (hK _ _ (NewT.refl _) rfl))
      · intro w2 k2
        iterate 8 (intro u h; obtain rfl := Eq.symm (h (by simp)); clear h)
        refine relyEnd_nil rfl ?_
        refine wpList_end rfl ?_
        simp only [Act.put, List.setIfInBounds_toArray, List.set_cons_zero, List.set_cons_succ]
        go_simp
        replace Rg1 := Lib.hid (k2.row Rg1.out)
        replace HM := Lib.hid (NewT.trans _ _ _ HM.out k2)
        clear k2
        cases hq : inR g.at_ 0 ((l.length : Int) - 1)
        · skip
          go_wp2
          exact bodyPost_ret (results_tt rfl rfl rfl) rfl ⟨_, rfl, HM.out, by show _ = Value.tuple _; rw [HE.out.1, HE.out.2, hq]; first | done | rfl⟩
        · skip
          have HQ := Lib.hid hq
          clear hq
          go_upto_region 5 with fail
          refine wp_region_steps0 NewT [SV.eq (.pointer (some ⟨g1, 2, none⟩)), SV.eq (.int .i64 (g.at_))] [([(1, none)], none), ([(19, some 0)], none)] 21 2 rfl rfl (by kernel_rfl) NewT.trans (NewT.refl _) (Nat.le_of_ble_eq_true rfl) ⟨?_, ?_, trivial⟩ ?_
          · exact fun a wx hT hF K hK => rely_wp rfl (opr_fldU2 rfl hF.1 (hK _ _ (NewT.refl _) rfl))
          · exact fun a wx hT hF K hK => rely_wp rfl (opr_ldI (hT.row Rg1.out) (by decide) rfl rfl hF.1 (hK _ _ (NewT.refl _) rfl))
          · intro w3 k3
            iterate 2 (intro u h; obtain rfl := Eq.symm (h (by simp)); clear h)
            refine relyEnd_nil rfl ?_
            simp only [Act.put, List.setIfInBounds_toArray, List.set_cons_zero, List.set_cons_succ]
            refine wpList_plain rfl (fun K hK => ?_)
            refine opr_move (.inr rfl) (hK _ _ ?_)
            clear hK K
            simp only [Act.put, List.setIfInBounds_toArray, List.set_cons_zero, List.set_cons_succ]
            refine wpList_plain rfl (fun K hK => ?_)
            refine opr_move (.inr rfl) (hK _ _ ?_)
            clear hK K
            refine wpList_end rfl ?_
            simp only [Act.put, List.setIfInBounds_toArray, List.set_cons_zero, List.set_cons_succ]
            go_simp
            replace Rg1 := Lib.hid (k3.row Rg1.out)
            replace HM := Lib.hid (NewT.trans _ _ _ HM.out k3)
            clear k3
            go_wp2
            exact bodyPost_ret (results_tt rfl rfl rfl) rfl ⟨_, rfl, HM.out, by show _ = Value.tuple _; rw [HE.out.1, HE.out.2, HQ.out]; first | done | rfl⟩
    · have HE : Hid (nextI l g = oI (tgtO l g) ∧ nextB l g = (tgtO l g).isSome) := Lib.hid (by
        have hb' : g.ph = 1 := by simpa using hb
        exact ⟨by unfold nextI; rw [if_pos hb'], by unfold nextB; rw [if_pos hb']⟩)
      clear hb
      go_upto_region 2 with fail
      refine wp_region_steps0 NewT [SV.eq (.agg (rowA 10 (sgF sv g))), SV.eq ((.tuple #[.int .i64 (oI (tgtO l g)), .bool (tgtO l g).isSome])), SV.eq (.int .i64 (oI (tgtO l g))), SV.eq (.bool ((tgtO l g).isSome))] [([(1, none)], none), ([(7, some 0)], none), ([(8, some 1)], none), ([(8, some 1)], none)] 21 4 rfl rfl (by kernel_rfl) NewT.trans (NewT.refl _) (Nat.le_of_ble_eq_true rfl) ⟨?_, ?_, ?_, ?_, trivial⟩ ?_
      · exact fun a wx hT hF K hK => rely_wp rfl (opr_ldU (hT.row Rg1.out) rfl hF.1 (hK _ _ (NewT.refl _) rfl))
      · exact fun a wx hT hF K hK => rely_wp rfl (opr_cv (target_cv sv l g wx ((NewT.trans _ _ _ HM.out hT).pairs HS.out) HL6.out) rfl Try.func76 (by kernel_rfl) (by kernel_rfl) (evs1 hF.1) hK)
      · exact fun a wx hT hF K hK => rely_wp rfl (opr_ext rfl hF.1 rfl (hK _ _ (NewT.refl _) rfl))
      · exact fun a wx hT hF K hK => rely_wp rfl (opr_ext rfl hF.1 rfl (hK _ _ (NewT.refl _) rfl))
      · intro w4 k4
        iterate 4 (intro u h; obtain rfl := Eq.symm (h (by simp)); clear h)
        refine relyEnd_nil rfl ?_
        simp only [Act.put, List.setIfInBounds_toArray, List.set_cons_zero, List.set_cons_succ]
        refine wpList_plain rfl (fun K hK => ?_)
        refine opr_move (.inr rfl) (hK _ _ ?_)
        clear hK K
        simp only [Act.put, List.setIfInBounds_toArray, List.set_cons_zero, List.set_cons_succ]
        refine wpList_plain rfl (fun K hK => ?_)
        refine opr_move (.inr rfl) (hK _ _ ?_)
        clear hK K
        refine wpList_end rfl ?_
        simp only [Act.put, List.setIfInBounds_toArray, List.set_cons_zero, List.set_cons_succ]
        go_simp
        replace Rg1 := Lib.hid (k4.row Rg1.out)
        replace HM := Lib.hid (NewT.trans _ _ _ HM.out k4)
        clear k4
        go_wp2
        exact bodyPost_ret (results_tt rfl rfl rfl) rfl ⟨_, rfl, HM.out, by show _ = Value.tuple _; rw [HE.out.1, HE.out.2]; first | done | rfl⟩
set_option maxHeartbeats 4000000 in
theorem Due_cv (sv : Value) (l : List (Int × Int)) (g : Sg) (lim : Int) (w : World) (hs : RdP w sv l) (ok : OkG l g) : Cv 63 #[.agg (rowA 10 (sgF sv g)), .int .i64 lim] w (.eq (.tuple #[.agg (rowA 109 (recF (dueX l lim g) (.slice none 0 0) (.slice none 0 0))), .bool (inG lim g)])) := by
  unfold Cv
  have HS := Lib.hid hs
  have HOK := Lib.hid ok
  have HL6 : Hid (l.length ≤ 6) := Lib.hid ok.len.2
  have HTR := Lib.hid ok.tr
  clear hs ok
  go_enter Try.func63, Try.ntmps63
  go_upto_region 1 with fail
  have r_g1 := (rowIs_box w 48 10 (sgF sv g)).alloc (.cells (rowA 109 (recF zR (.slice none 0 0) (.slice none 0 0))) 46)
  have r_g2 := rowIs_box (w.alloc (.cells (rowA 10 (sgF sv g)) 48)) 46 109 (recF zR (.slice none 0 0) (.slice none 0 0))
  rw [World.size_alloc] at r_g2
  have hN : NewT w ((w.alloc (.cells (rowA 10 (sgF sv g)) 48)).alloc (.cells (rowA 109 (recF zR (.slice none 0 0) (.slice none 0 0))) 46)) := (NewT.trans _ _ _ (NewT.alloc _ _) (NewT.alloc _ _))
  change Code.wp _ _ _ _ ((w.alloc (.cells (rowA 10 (sgF sv g)) 48)).alloc (.cells (rowA 109 (recF zR (.slice none 0 0) (.slice none 0 0))) 46))
  generalize ((w.alloc (.cells (rowA 10 (sgF sv g)) 48)).alloc (.cells (rowA 109 (recF zR (.slice none 0 0) (.slice none 0 0))) 46)) = W0 at r_g1 r_g2 hN ⊢
  obtain ⟨g1, h_g1⟩ : ∃ g_, w.heap.size = g_ := ⟨_, rfl⟩
  obtain ⟨g2, h_g2⟩ : ∃ g_, w.heap.size + 1 = g_ := ⟨_, rfl⟩
  have HG : Hid (w.heap.size ≤ g1 ∧ g1 < g2) := Lib.hid (by omega)
  rw [h_g1] at r_g1
  rw [h_g2] at r_g2
  try rw [h_g2]
  simp only [h_g1]
  have Rg1 := Lib.hid r_g1
  have Rg2 := Lib.hid r_g2
  have HM := Lib.hid hN
  clear r_g1 r_g2 hN h_g1 h_g2
  go_upto_region 1 with fail
  obtain ⟨q1_1, Q1_1⟩ : ∃ bq_, (((!(inR lim 1 9)) || g.wt) || (overB g.ph)) = bq_ := ⟨_, rfl⟩
  refine wp_region_steps0 NewT [SV.eq (.int .i64 (lim)), SV.eq (.bool (inR lim 1 9)), SV.eq (.bool (!(inR lim 1 9))), SV.eq (.bool (!(inR lim 1 9))), svIf ((!(!(inR lim 1 9)))) (SV.eq (.pointer (some ⟨g1, 4, none⟩))), svIf ((!(!(inR lim 1 9)))) (SV.eq (.bool (g.wt))), SV.eq (.bool ((!(inR lim 1 9)) || g.wt)), SV.eq (.bool ((!(inR lim 1 9)) || g.wt)), svIf ((!((!(inR lim 1 9)) || g.wt))) (SV.eq (.agg (rowA 10 (sgF sv g)))), svIf ((!((!(inR lim 1 9)) || g.wt))) (SV.eq (.bool (overB g.ph))), SV.eq (.bool (q1_1))] [([(1, none)], none), ([(9, some 0)], none), ([(10, some 1)], none), ([(11, some 2)], none), ([(2, none), (12, some 3)], some (12, false)), ([(13, some 4), (12, some 3)], some (12, false)), ([(12, some 3), (14, some 5)], none), ([(15, some 6)], none), ([(2, none), (16, some 7)], some (16, false)), ([(17, some 8), (16, some 7)], some (16, false)), ([(16, some 7), (18, some 9)], none)] 50 11 rfl rfl (by kernel_rfl) NewT.trans (NewT.refl _) (Nat.le_of_ble_eq_true rfl) ⟨?_, ?_, ?_, ?_, ?_, ?_, ?_, ?_, ?_, ?_, ?_, trivial⟩ ?_
  · exact fun a wx hT hF K hK => rely_wp rfl (opr_move (.inl rfl) (hK _ _ (NewT.refl _) hF.1))
  · exact fun a wx hT hF K hK => rely_wp rfl (opr_cv (gLimit_cv lim wx) rfl Try.func37 (by kernel_rfl) (by kernel_rfl) (evs1 hF.1) hK)
  · exact fun a wx hT hF K hK => rely_wp rfl (opr_not rfl hF.1 (hK _ _ (NewT.refl _) rfl))
  · exact fun a wx hT hF K hK => rely_wp rfl (opr_move (.inl rfl) (hK _ _ (NewT.refl _) hF.1))
  · exact fun a wx hT hF K hK => rely_if (rely_gf hF.2.1) (NewT.refl _) hK fun hE hK => opr_fldU4 rfl hF.1 (hK _ _ (NewT.refl _) rfl)
  · exact fun a wx hT hF K hK => rely_if (rely_gf hF.2.1) (NewT.refl _) hK fun hE hK => opr_ldQ (hT.row Rg1.out) (by decide) rfl rfl (hF.1 hE) (hK _ _ (NewT.refl _) rfl)
  · exact fun a wx hT hF K hK => rely_wp rfl (opr_pick_b rfl hF.1 (fun hb => hK _ _ (NewT.refl _) (pk_or1 hb)) (fun hb => hK _ _ (NewT.refl _) (pk_or0 (hF.2.1 (bnot hb)) hb)))
  · exact fun a wx hT hF K hK => rely_wp rfl (opr_move (.inl rfl) (hK _ _ (NewT.refl _) hF.1))
  · exact fun a wx hT hF K hK => rely_if (rely_gf hF.2.1) (NewT.refl _) hK fun hE hK => opr_ldU (hT.row Rg1.out) rfl hF.1 (hK _ _ (NewT.refl _) rfl)
  · exact fun a wx hT hF K hK => rely_if (rely_gf hF.2.1) (NewT.refl _) hK fun hE hK => opr_cv (Over_cv sv g wx) rfl Try.func74 (by kernel_rfl) (by kernel_rfl) (evs1 (hF.1 hE)) hK
  · exact fun a wx hT hF K hK => rely_wp rfl (opr_pick_b rfl hF.1 (fun hb => hK _ _ (NewT.refl _) (pn_or1 Q1_1 hb)) (fun hb => hK _ _ (NewT.refl _) (pn_or0 Q1_1 (hF.2.1 (bnot hb)) hb)))
  · intro w1 k1
    iterate 4 (intro u h; obtain rfl := Eq.symm (h (by simp)); clear h)
    iterate 2 (intro _ _)
    iterate 2 (intro u h; obtain rfl := Eq.symm (h (by simp)); clear h)
    iterate 2 (intro _ _)
    intro u h; obtain rfl := Eq.symm (h (by simp)); clear h
    subst Q1_1
    refine relyEnd_nil rfl ?_
    refine wpList_end rfl ?_
    simp only [Act.put, List.setIfInBounds_toArray, List.set_cons_zero, List.set_cons_succ]
    go_simp
    replace Rg1 := Lib.hid (k1.row Rg1.out)
    replace Rg2 := Lib.hid (k1.row Rg2.out)
    replace HM := Lib.hid (NewT.trans _ _ _ HM.out k1)
    clear k1
    cases hb : ((((!(inR lim 1 9)) || g.wt) || (overB g.ph)))
    · have HI : Hid (inG lim g = true) := Lib.hid (by unfold inG; rw [hb]; rfl)
      clear hb
      go_upto_region 3 with fail
      refine wp_region_steps0 NewT [SV.eq (.pointer (some ⟨g1, 1, none⟩)), SV.eq (.int .i64 (g.ph)), SV.eq (.bool (g.ph == 1)), SV.eq (.bool (g.ph == 1))] [([(2, none)], none), ([(21, some 0)], none), ([(22, some 1)], none), ([(23, some 2)], none)] 50 4 rfl rfl (by kernel_rfl) NewT.trans (NewT.refl _) (Nat.le_of_ble_eq_true rfl) ⟨?_, ?_, ?_, ?_, trivial⟩ ?_
      · exact fun a wx hT hF K hK => rely_wp rfl (opr_fldU1 rfl hF.1 (hK _ _ (NewT.refl _) rfl))
      · exact fun a wx hT hF K hK => rely_wp rfl (opr_ldI (hT.row Rg1.out) (by decide) rfl rfl hF.1 (hK _ _ (NewT.refl _) rfl))
      · exact fun a wx hT hF K hK => rely_wp rfl (opr_cmp (b := g.ph == 1) (.inl ⟨rfl, rfl⟩) Try.underlying3 rfl hF.1 rfl (hK _ _ (NewT.refl _) rfl))
      · exact fun a wx hT hF K hK => rely_wp rfl (opr_move (.inr rfl) (hK _ _ (NewT.refl _) hF.1))
      · intro w2 k2
        iterate 4 (intro u h; obtain rfl := Eq.symm (h (by simp)); clear h)
        refine relyEnd_nil rfl ?_
        refine wpList_end rfl ?_
        simp only [Act.put, List.setIfInBounds_toArray, List.set_cons_zero, List.set_cons_succ]
        go_simp
        replace Rg1 := Lib.hid (k2.row Rg1.out)
        replace Rg2 := Lib.hid (k2.row Rg2.out)
        replace HM := Lib.hid (NewT.trans _ _ _ HM.out k2)
        clear k2
        go_upto_region 4 with fail
        refine wp_region_steps0 NewT [SV.eq (.agg (rowA 10 (sgF sv g))), SV.eq ((.tuple #[.int .i64 (nextI l g), .bool (nextB l g)])), SV.eq ((.tuple #[.int .i64 (nextI l g), .bool (nextB l g)])), SV.eq (.int .i64 (nextI l g)), SV.eq (.bool (nextB l g))] [([(2, none)], none), ([(25, some 0)], none), ([(26, some 1)], none), ([(24, some 2)], none), ([(24, some 2)], none)] 50 5 rfl rfl (by kernel_rfl) NewT.trans (NewT.refl _) (Nat.le_of_ble_eq_true rfl) ⟨?_, ?_, ?_, ?_, ?_, trivial⟩ ?_
        · exact fun a wx hT hF K hK => rely_wp rfl (opr_ldU (hT.row Rg1.out) rfl hF.1 (hK _ _ (NewT.refl _) rfl))
        · exact fun a wx hT hF K hK => rely_wp rfl (opr_cv (next_cv sv l g wx ((NewT.trans _ _ _ HM.out hT).pairs HS.out) HL6.out) rfl Try.func64 (by kernel_rfl) (by kernel_rfl) (evs1 hF.1) hK)
        · exact fun a wx hT hF K hK => rely_wp rfl (opr_move (.inl rfl) (hK _ _ (NewT.refl _) hF.1))
        · exact fun a wx hT hF K hK => rely_wp rfl (opr_ext rfl hF.1 rfl (hK _ _ (NewT.refl _) rfl))
        · exact fun a wx hT hF K hK => rely_wp rfl (opr_ext rfl hF.1 rfl (hK _ _ (NewT.refl _) rfl))
        · intro w3 k3
          iterate 5 (intro u h; obtain rfl := Eq.symm (h (by simp)); clear h)
          refine relyEnd_nil rfl ?_
          simp only [Act.put, List.setIfInBounds_toArray, List.set_cons_zero, List.set_cons_succ]
          refine wpList_plain rfl (fun K hK => ?_)
          refine opr_move (.inr rfl) (hK _ _ ?_)
          clear hK K
          simp only [Act.put, List.setIfInBounds_toArray, List.set_cons_zero, List.set_cons_succ]
          refine wpList_plain rfl (fun K hK => ?_)
          refine opr_move (.inr rfl) (hK _ _ ?_)
          clear hK K
          refine wpList_end rfl ?_
          simp only [Act.put, List.setIfInBounds_toArray, List.set_cons_zero, List.set_cons_succ]
          go_simp
          replace Rg1 := Lib.hid (k3.row Rg1.out)
          replace Rg2 := Lib.hid (k3.row Rg2.out)
          replace HM := Lib.hid (NewT.trans _ _ _ HM.out k3)
          clear k3
          go_upto_region 5 with fail
          obtain ⟨q1_5, Q1_5⟩ : ∃ bq_, ((nextB l g) && (decide (g.tr < lim))) = bq_ := ⟨_, rfl⟩
          refine wp_region_steps0 NewT [SV.eq (.bool (nextB l g)), SV.eq (.bool (nextB l g)), svIf (nextB l g) (SV.eq (.pointer (some ⟨g1, 3, none⟩))), svIf (nextB l g) (SV.eq (.int .i64 (g.tr))), svIf (nextB l g) (SV.eq (.int .i64 (lim))), svIf (nextB l g) (SV.eq (.bool (decide (g.tr < lim)))), SV.eq (.bool (q1_5)), SV.eq (.bool (q1_5))] [([(8, none)], none), ([(30, some 0)], none), ([(2, none), (31, some 1)], some (31, true)), ([(32, some 2), (31, some 1)], some (31, true)), ([(1, none), (31, some 1)], some (31, true)), ([(33, some 3), (34, some 4), (31, some 1)], some (31, true)), ([(31, some 1), (35, some 5)], none), ([(36, some 6)], none)] 50 8 rfl rfl (by kernel_rfl) NewT.trans (NewT.refl _) (Nat.le_of_ble_eq_true rfl) ⟨?_, ?_, ?_, ?_, ?_, ?_, ?_, ?_, trivial⟩ ?_
          · exact fun a wx hT hF K hK => rely_wp rfl (opr_move (.inl rfl) (hK _ _ (NewT.refl _) hF.1))
          · exact fun a wx hT hF K hK => rely_wp rfl (opr_move (.inl rfl) (hK _ _ (NewT.refl _) hF.1))
          · exact fun a wx hT hF K hK => rely_if (rely_gt hF.2.1) (NewT.refl _) hK fun hE hK => opr_fldU3 rfl hF.1 (hK _ _ (NewT.refl _) rfl)
          · exact fun a wx hT hF K hK => rely_if (rely_gt hF.2.1) (NewT.refl _) hK fun hE hK => opr_ldI (hT.row Rg1.out) (by decide) rfl rfl (hF.1 hE) (hK _ _ (NewT.refl _) rfl)
          · exact fun a wx hT hF K hK => rely_if (rely_gt hF.2.1) (NewT.refl _) hK fun hE hK => opr_move (.inl rfl) (hK _ _ (NewT.refl _) hF.1)
          · exact fun a wx hT hF K hK => rely_if (rely_gt hF.2.2.1) (NewT.refl _) hK fun hE hK => opr_cmp (b := decide (g.tr < lim)) (.inr (.inr (.inr (.inl ⟨rfl, rfl⟩)))) Try.underlying3 rfl (hF.1 hE) (hF.2.1 hE) (hK _ _ (NewT.refl _) rfl)
          · exact fun a wx hT hF K hK => rely_wp rfl (opr_pick_b rfl hF.1 (fun hb => hK _ _ (NewT.refl _) (pn_and1 Q1_5 (hF.2.1 hb) hb)) (fun hb => hK _ _ (NewT.refl _) (pn_and0 Q1_5 hb)))
          · exact fun a wx hT hF K hK => rely_wp rfl (opr_move (.inr rfl) (hK _ _ (NewT.refl _) hF.1))
          · intro w4 k4
            iterate 2 (intro u h; obtain rfl := Eq.symm (h (by simp)); clear h)
            iterate 4 (intro _ _)
            iterate 2 (intro u h; obtain rfl := Eq.symm (h (by simp)); clear h)
            subst Q1_5
            refine relyEnd_nil rfl ?_
            refine wpList_end rfl ?_
            simp only [Act.put, List.setIfInBounds_toArray, List.set_cons_zero, List.set_cons_succ]
            go_simp
            replace Rg1 := Lib.hid (k4.row Rg1.out)
            replace Rg2 := Lib.hid (k4.row Rg2.out)
            replace HM := Lib.hid (NewT.trans _ _ _ HM.out k4)
            clear k4
            cases hq : (nextB l g && decide (g.tr < lim))
            · skip
              cases hn : nextB l g
              · cases hp : (g.ph == 1)
                · have HE : Hid (dueX l lim g = clR 2 ∧ inG lim g = true) := Lib.hid ⟨by unfold dueX; rw [HI.out, if_pos rfl, hn, if_neg (by simp), if_neg (by simpa using hp)], HI.out⟩
                  clear hq hn hp
                  go_upto_region 11 with fail
                  refine wp_region_steps0 NewT [SV.eq ((.agg (rowA 109 (recF (clR 2) (.slice none 0 0) (.slice none 0 0)))))] [([], none)] 50 1 rfl rfl (by kernel_rfl) NewT.trans (NewT.refl _) (Nat.le_of_ble_eq_true rfl) ⟨?_, trivial⟩ ?_
                  · exact fun a wx hT hF K hK => rely_wp rfl (opr_cv (gClosed_cv 2 wx) rfl Try.func75 (by kernel_rfl) (by kernel_rfl) (evs1 rfl) hK)
                  · intro w5 k5
                    intro u h; obtain rfl := Eq.symm (h (by simp)); clear h
                    refine relyEnd_nil rfl ?_
                    simp only [Act.put, List.setIfInBounds_toArray, List.set_cons_zero, List.set_cons_succ]
                    refine wpList_plain rfl (fun K hK => ?_)
                    refine opr_putm (g := g2) (o0 := 0) (m := 109) (f := recF (clR 2) (.slice none 0 0) (.slice none 0 0)) (F := recF (clR 2) (.slice none 0 0) (.slice none 0 0)) rfl rfl rfl (k5.row Rg2.out) (by decide) info_rec (recF_one _ _ _ rfl rfl) (put_allN _ _ _) ?_
                    intro W5 hR5 rr5
                    refine hK _ _ ?_
                    clear hK K
                    simp only [Act.put, List.setIfInBounds_toArray, List.set_cons_zero, List.set_cons_succ]
                    refine wpList_plain rfl (fun K hK => ?_)
                    refine opr_move (.inr rfl) (hK _ _ ?_)
                    clear hK K
                    refine wpList_end rfl ?_
                    simp only [Act.put, List.setIfInBounds_toArray, List.set_cons_zero, List.set_cons_succ]
                    go_simp
                    replace Rg2 := Lib.hid rr5
                    replace Rg1 := Lib.hid (hR5.row (by have h_0 := HG.out; omega) (k5.row Rg1.out))
                    replace HM := Lib.hid (NewT.rt (NewT.trans _ _ _ HM.out k5) hR5 (by have h_0 := HG.out; omega))
                    clear k5 hR5 rr5
                    go_wp2
                    exact bodyPost_ret (results_rt rfl rfl rfl Rg2.out Try.underlying46 rfl info_rec) rfl ⟨_, rfl, HM.out, by show _ = Value.tuple _; rw [HE.out.1, HE.out.2]; first | done | rfl⟩
                · have HE : Hid (dueX l lim g = clR 3 ∧ inG lim g = true) := Lib.hid ⟨by unfold dueX; rw [HI.out, if_pos rfl, hn, if_neg (by simp), if_pos (by simpa using hp)], HI.out⟩
                  clear hq hn hp
                  go_upto_region 10 with fail
                  refine wp_region_steps0 NewT [SV.eq ((.agg (rowA 109 (recF (clR 3) (.slice none 0 0) (.slice none 0 0)))))] [([], none)] 50 1 rfl rfl (by kernel_rfl) NewT.trans (NewT.refl _) (Nat.le_of_ble_eq_true rfl) ⟨?_, trivial⟩ ?_
                  · exact fun a wx hT hF K hK => rely_wp rfl (opr_cv (gClosed_cv 3 wx) rfl Try.func75 (by kernel_rfl) (by kernel_rfl) (evs1 rfl) hK)
                  · intro w6 k6
                    intro u h; obtain rfl := Eq.symm (h (by simp)); clear h
                    refine relyEnd_nil rfl ?_
                    simp only [Act.put, List.setIfInBounds_toArray, List.set_cons_zero, List.set_cons_succ]
                    refine wpList_plain rfl (fun K hK => ?_)
                    refine opr_putm (g := g2) (o0 := 0) (m := 109) (f := recF (clR 3) (.slice none 0 0) (.slice none 0 0)) (F := recF (clR 3) (.slice none 0 0) (.slice none 0 0)) rfl rfl rfl (k6.row Rg2.out) (by decide) info_rec (recF_one _ _ _ rfl rfl) (put_allN _ _ _) ?_
                    intro W6 hR6 rr6
                    refine hK _ _ ?_
                    clear hK K
                    simp only [Act.put, List.setIfInBounds_toArray, List.set_cons_zero, List.set_cons_succ]
                    refine wpList_plain rfl (fun K hK => ?_)
                    refine opr_move (.inr rfl) (hK _ _ ?_)
                    clear hK K
                    refine wpList_end rfl ?_
                    simp only [Act.put, List.setIfInBounds_toArray, List.set_cons_zero, List.set_cons_succ]
                    go_simp
                    replace Rg2 := Lib.hid rr6
                    replace Rg1 := Lib.hid (hR6.row (by have h_0 := HG.out; omega) (k6.row Rg1.out))
                    replace HM := Lib.hid (NewT.rt (NewT.trans _ _ _ HM.out k6) hR6 (by have h_0 := HG.out; omega))
                    clear k6 hR6 rr6
                    go_wp2
                    exact bodyPost_ret (results_rt rfl rfl rfl Rg2.out Try.underlying46 rfl info_rec) rfl ⟨_, rfl, HM.out, by show _ = Value.tuple _; rw [HE.out.1, HE.out.2]; first | done | rfl⟩
              · have HE : Hid (dueX l lim g = clR 4 ∧ inG lim g = true) := Lib.hid ⟨by unfold dueX; rw [HI.out, if_pos rfl, hn, if_pos rfl, if_neg (by rw [hn, Bool.true_and] at hq; simpa using hq)], HI.out⟩
                clear hq hn
                go_upto_region 8 with fail
                refine wp_region_steps0 NewT [SV.eq ((.agg (rowA 109 (recF (clR 4) (.slice none 0 0) (.slice none 0 0)))))] [([], none)] 50 1 rfl rfl (by kernel_rfl) NewT.trans (NewT.refl _) (Nat.le_of_ble_eq_true rfl) ⟨?_, trivial⟩ ?_
                · exact fun a wx hT hF K hK => rely_wp rfl (opr_cv (gClosed_cv 4 wx) rfl Try.func75 (by kernel_rfl) (by kernel_rfl) (evs1 rfl) hK)
                · intro w7 k7
                  intro u h; obtain rfl := Eq.symm (h (by simp)); clear h
                  refine relyEnd_nil rfl ?_
                  simp only [Act.put, List.setIfInBounds_toArray, List.set_cons_zero, List.set_cons_succ]
                  refine wpList_plain rfl (fun K hK => ?_)
                  refine opr_putm (g := g2) (o0 := 0) (m := 109) (f := recF (clR 4) (.slice none 0 0) (.slice none 0 0)) (F := recF (clR 4) (.slice none 0 0) (.slice none 0 0)) rfl rfl rfl (k7.row Rg2.out) (by decide) info_rec (recF_one _ _ _ rfl rfl) (put_allN _ _ _) ?_
                  intro W7 hR7 rr7
                  refine hK _ _ ?_
                  clear hK K
                  simp only [Act.put, List.setIfInBounds_toArray, List.set_cons_zero, List.set_cons_succ]
                  refine wpList_plain rfl (fun K hK => ?_)
                  refine opr_move (.inr rfl) (hK _ _ ?_)
                  clear hK K
                  refine wpList_end rfl ?_
                  simp only [Act.put, List.setIfInBounds_toArray, List.set_cons_zero, List.set_cons_succ]
                  go_simp
                  replace Rg2 := Lib.hid rr7
                  replace Rg1 := Lib.hid (hR7.row (by have h_0 := HG.out; omega) (k7.row Rg1.out))
                  replace HM := Lib.hid (NewT.rt (NewT.trans _ _ _ HM.out k7) hR7 (by have h_0 := HG.out; omega))
                  clear k7 hR7 rr7
                  go_wp2
                  exact bodyPost_ret (results_rt rfl rfl rfl Rg2.out Try.underlying46 rfl info_rec) rfl ⟨_, rfl, HM.out, by show _ = Value.tuple _; rw [HE.out.1, HE.out.2]; first | done | rfl⟩
            · have HE : Hid (dueX l lim g = { zR with kind := 2, step := nextI l g, tr := g.tr + 1, back := g.ph == 1 } ∧ inG lim g = true) := Lib.hid ⟨by
                rw [Bool.and_eq_true] at hq
                unfold dueX
                rw [HI.out, if_pos rfl, hq.1, if_pos rfl, if_pos (by simpa using hq.2)], HI.out⟩
              clear hq
              go_upto_region 6 with fail
              refine wp_region_steps0 NewT [SV.eq (.int .i64 (nextI l g)), SV.eq (.pointer (some ⟨g1, 3, none⟩)), SV.eq (.int .i64 (g.tr)), SV.eq (.int .i64 (g.tr + 1)), SV.eq (.bool (g.ph == 1)), SV.eq ((.agg (rowA 109 (recF { zR with kind := 2, step := nextI l g, tr := g.tr + 1, back := g.ph == 1 } (.slice none 0 0) (.slice none 0 0)))))] [([(7, none)], none), ([(2, none)], none), ([(38, some 1)], none), ([(39, some 2)], none), ([(6, none)], none), ([(37, some 0), (40, some 3), (41, some 4)], none)] 50 6 rfl rfl (by kernel_rfl) NewT.trans (NewT.refl _) (Nat.le_of_ble_eq_true rfl) ⟨?_, ?_, ?_, ?_, ?_, ?_, trivial⟩ ?_
              · exact fun a wx hT hF K hK => rely_wp rfl (opr_move (.inl rfl) (hK _ _ (NewT.refl _) hF.1))
              · exact fun a wx hT hF K hK => rely_wp rfl (opr_fldU3 rfl hF.1 (hK _ _ (NewT.refl _) rfl))
              · exact fun a wx hT hF K hK => rely_wp rfl (opr_ldI (hT.row Rg1.out) (by decide) rfl rfl hF.1 (hK _ _ (NewT.refl _) rfl))
              · exact fun a wx hT hF K hK => rely_wp rfl (opr_add (r := g.tr + 1) Try.underlying3 (by have := HTR.out; unfold wrap64; omega) rfl hF.1 rfl (hK _ _ (NewT.refl _) rfl))
              · exact fun a wx hT hF K hK => rely_wp rfl (opr_move (.inl rfl) (hK _ _ (NewT.refl _) hF.1))
              · intro a wx hT hF K hK
                obtain ⟨f37, f40, f41, _⟩ := hF
                have f37 : a.tmps.getD 37 undef = .int .i64 (nextI l g) := f37
                have f40 : a.tmps.getD 40 undef = .int .i64 (g.tr + 1) := f40
                have f41 : a.tmps.getD 41 undef = .bool (g.ph == 1) := f41
                refine rely_wp rfl ?_
                exact opr_build (pv := #[(0, .int .i64 2), (3, .int .i64 (nextI l g)), (4, .int .i64 (g.tr + 1)), (5, .bool (g.ph == 1))]) rfl (by simp only [List.map_toArray, List.map_cons, List.map_nil, eval_tmp, eval_const, f37, f40, f41]) (build_intent (nextI l g) (g.tr + 1) (g.ph == 1) wx) (hK _ _ (NewT.refl _) rfl)
              · intro w8 k8
                iterate 6 (intro u h; obtain rfl := Eq.symm (h (by simp)); clear h)
                refine relyEnd_nil rfl ?_
                simp only [Act.put, List.setIfInBounds_toArray, List.set_cons_zero, List.set_cons_succ]
                refine wpList_plain rfl (fun K hK => ?_)
                refine opr_putm (g := g2) (o0 := 0) (m := 109) (f := recF { zR with kind := 2, step := nextI l g, tr := g.tr + 1, back := g.ph == 1 } (.slice none 0 0) (.slice none 0 0)) (F := recF { zR with kind := 2, step := nextI l g, tr := g.tr + 1, back := g.ph == 1 } (.slice none 0 0) (.slice none 0 0)) rfl rfl rfl (k8.row Rg2.out) (by decide) info_rec (recF_one _ _ _ rfl rfl) (put_allN _ _ _) ?_
                intro W8 hR8 rr8
                refine hK _ _ ?_
                clear hK K
                simp only [Act.put, List.setIfInBounds_toArray, List.set_cons_zero, List.set_cons_succ]
                refine wpList_plain rfl (fun K hK => ?_)
                refine opr_move (.inr rfl) (hK _ _ ?_)
                clear hK K
                refine wpList_end rfl ?_
                simp only [Act.put, List.setIfInBounds_toArray, List.set_cons_zero, List.set_cons_succ]
                go_simp
                replace Rg2 := Lib.hid rr8
                replace Rg1 := Lib.hid (hR8.row (by have h_0 := HG.out; omega) (k8.row Rg1.out))
                replace HM := Lib.hid (NewT.rt (NewT.trans _ _ _ HM.out k8) hR8 (by have h_0 := HG.out; omega))
                clear k8 hR8 rr8
                go_wp2
                exact bodyPost_ret (results_rt rfl rfl rfl Rg2.out Try.underlying46 rfl info_rec) rfl ⟨_, rfl, HM.out, by show _ = Value.tuple _; rw [HE.out.1, HE.out.2]; first | done | rfl⟩
    · have HE : Hid (dueX l lim g = zR ∧ inG lim g = false) := Lib.hid (by
        have hI : inG lim g = false := by unfold inG; rw [hb]; rfl
        exact ⟨by unfold dueX; rw [hI, if_neg (by simp)], hI⟩)
      clear hb
      go_upto_region 2 with fail
      refine wp_region_steps0 NewT [SV.eq ((.agg (rowA 109 (recF zR (.slice none 0 0) (.slice none 0 0)))))] [([], none)] 50 1 rfl rfl (by kernel_rfl) NewT.trans (NewT.refl _) (Nat.le_of_ble_eq_true rfl) ⟨?_, trivial⟩ ?_
      · exact fun a wx hT hF K hK => rely_wp rfl (opr_build (pv := #[]) rfl (by simp) (build_rec0 wx) (hK _ _ (NewT.refl _) rfl))
      · intro w9 k9
        intro u h; obtain rfl := Eq.symm (h (by simp)); clear h
        refine relyEnd_nil rfl ?_
        simp only [Act.put, List.setIfInBounds_toArray, List.set_cons_zero, List.set_cons_succ]
        refine wpList_plain rfl (fun K hK => ?_)
        refine opr_putm (g := g2) (o0 := 0) (m := 109) (f := recF zR (.slice none 0 0) (.slice none 0 0)) (F := recF zR (.slice none 0 0) (.slice none 0 0)) rfl rfl rfl (k9.row Rg2.out) (by decide) info_rec (recF_one _ _ _ rfl rfl) (put_allN _ _ _) ?_
        intro W9 hR9 rr9
        refine hK _ _ ?_
        clear hK K
        simp only [Act.put, List.setIfInBounds_toArray, List.set_cons_zero, List.set_cons_succ]
        refine wpList_plain rfl (fun K hK => ?_)
        refine opr_move (.inr rfl) (hK _ _ ?_)
        clear hK K
        refine wpList_end rfl ?_
        simp only [Act.put, List.setIfInBounds_toArray, List.set_cons_zero, List.set_cons_succ]
        go_simp
        replace Rg2 := Lib.hid rr9
        replace Rg1 := Lib.hid (hR9.row (by have h_0 := HG.out; omega) (k9.row Rg1.out))
        replace HM := Lib.hid (NewT.rt (NewT.trans _ _ _ HM.out k9) hR9 (by have h_0 := HG.out; omega))
        clear k9 hR9 rr9
        go_wp2
        exact bodyPost_ret (results_rt rfl rfl rfl Rg2.out Try.underlying46 rfl info_rec) rfl ⟨_, rfl, HM.out, by show _ = Value.tuple _; rw [HE.out.1, HE.out.2]; first | done | rfl⟩
set_option maxHeartbeats 4000000 in
theorem isDue_cv (sv : Value) (l : List (Int × Int)) (g : Sg) (x : Rc) (v : Value) (lim : Int) (w : World) (hs : RdP w sv l) (hx : RecV w v x) (ok : OkG l g) : Cv 51 #[.agg (rowA 10 (sgF sv g)), v, .int .i64 lim] w (.eq (.bool (isDueB l lim g x))) := by
  obtain ⟨su, dv, rfl, hsx, hdx⟩ := hx
  have HX : Hid (RecV w (.agg (rowA 109 (recF x su dv))) x) := Lib.hid ⟨su, dv, rfl, hsx, hdx⟩
  have HSX := Lib.hid hsx
  have HD := Lib.hid hdx
  clear hsx hdx
  unfold Cv
  have HS := Lib.hid hs
  have HOK := Lib.hid ok
  have HL6 : Hid (l.length ≤ 6) := Lib.hid ok.len.2
  have HTR := Lib.hid ok.tr
  clear hs ok
  go_enter Try.func51, Try.ntmps51
  go_upto_region 1 with fail
  have r_g1 := (rowIs_box w 48 10 (sgF sv g)).alloc (.cells (rowA 109 (recF x su dv)) 46)
  have r_g2 := rowIs_box (w.alloc (.cells (rowA 10 (sgF sv g)) 48)) 46 109 (recF x su dv)
  rw [World.size_alloc] at r_g2
  have hN : NewT w ((w.alloc (.cells (rowA 10 (sgF sv g)) 48)).alloc (.cells (rowA 109 (recF x su dv)) 46)) := (NewT.trans _ _ _ (NewT.alloc _ _) (NewT.alloc _ _))
  change Code.wp _ _ _ _ ((w.alloc (.cells (rowA 10 (sgF sv g)) 48)).alloc (.cells (rowA 109 (recF x su dv)) 46))
  generalize ((w.alloc (.cells (rowA 10 (sgF sv g)) 48)).alloc (.cells (rowA 109 (recF x su dv)) 46)) = W0 at r_g1 r_g2 hN ⊢
  obtain ⟨g1, h_g1⟩ : ∃ g_, w.heap.size = g_ := ⟨_, rfl⟩
  obtain ⟨g2, h_g2⟩ : ∃ g_, w.heap.size + 1 = g_ := ⟨_, rfl⟩
  have HG : Hid (w.heap.size ≤ g1 ∧ g1 < g2) := Lib.hid (by omega)
  rw [h_g1] at r_g1
  rw [h_g2] at r_g2
  try rw [h_g2]
  simp only [h_g1]
  have Rg1 := Lib.hid r_g1
  have Rg2 := Lib.hid r_g2
  have HM := Lib.hid hN
  clear r_g1 r_g2 hN h_g1 h_g2
  go_upto_region 1 with fail
  refine wp_region_steps0 NewT [SV.eq (.agg (rowA 10 (sgF sv g))), SV.eq (.int .i64 (lim)), SV.eq ((.tuple #[.agg (rowA 109 (recF (dueX l lim g) (.slice none 0 0) (.slice none 0 0))), .bool (inG lim g)])), SV.eq ((.tuple #[.agg (rowA 109 (recF (dueX l lim g) (.slice none 0 0) (.slice none 0 0))), .bool (inG lim g)])), SV.eq ((.agg (rowA 109 (recF (dueX l lim g) (.slice none 0 0) (.slice none 0 0))))), SV.eq (.bool (inG lim g))] [([(3, none)], none), ([(2, none)], none), ([(10, some 0), (11, some 1)], none), ([(12, some 2)], none), ([(9, some 3)], none), ([(9, some 3)], none)] 51 6 rfl rfl (by kernel_rfl) NewT.trans (NewT.refl _) (Nat.le_of_ble_eq_true rfl) ⟨?_, ?_, ?_, ?_, ?_, ?_, trivial⟩ ?_
  · exact fun a wx hT hF K hK => rely_wp rfl (opr_ldU (hT.row Rg1.out) rfl hF.1 (hK _ _ (NewT.refl _) rfl))
  · exact fun a wx hT hF K hK => rely_wp rfl (opr_move (.inl rfl) (hK _ _ (NewT.refl _) hF.1))
  · exact fun a wx hT hF K hK => rely_wp rfl (opr_cv (Due_cv sv l g lim wx ((NewT.trans _ _ _ HM.out hT).pairs HS.out) HOK.out) rfl Try.func63 (by kernel_rfl) (by kernel_rfl) (evs2 hF.1 hF.2.1) hK)
  · exact fun a wx hT hF K hK => rely_wp rfl (opr_move (.inl rfl) (hK _ _ (NewT.refl _) hF.1))
  · exact fun a wx hT hF K hK => rely_wp rfl (opr_ext rfl hF.1 rfl (hK _ _ (NewT.refl _) rfl))
  · exact fun a wx hT hF K hK => rely_wp rfl (opr_ext rfl hF.1 rfl (hK _ _ (NewT.refl _) rfl))
  · intro w1 k1
    iterate 6 (intro u h; obtain rfl := Eq.symm (h (by simp)); clear h)
    refine relyEnd_nil rfl ?_
    simp only [Act.put, List.setIfInBounds_toArray, List.set_cons_zero, List.set_cons_succ]
    refine wpList_new (n := 109) (f := recF (dueX l lim g) (.slice none 0 0) (.slice none 0 0)) rfl rfl rfl rfl rfl rfl (by first | (simp; done) | simp [Act.put]) run_alloc_rec info_rec (recF_one _ _ _ rfl rfl) rfl ?_
    intro W1 hn1 rr1
    simp only [Act.put, List.setIfInBounds_toArray, List.set_cons_zero, List.set_cons_succ]
    refine wpList_plain rfl (fun K hK => ?_)
    refine opr_move (.inr rfl) (hK _ _ ?_)
    clear hK K
    refine wpList_end rfl ?_
    simp only [Act.put, List.setIfInBounds_toArray, List.set_cons_zero, List.set_cons_succ]
    go_simp
    obtain ⟨g3, h_g3⟩ : ∃ g_, w1.heap.size = g_ := ⟨_, rfl⟩
    rw [h_g3] at rr1
    simp only [h_g3]
    have HGg3 : Hid (g1 < g3 ∧ g2 < g3 ∧ w.heap.size ≤ g3) := Lib.hid (by rw [← h_g3]; exact ⟨(k1.row Rg1.out).lt, (k1.row Rg2.out).lt, (NewT.trans _ _ _ HM.out k1).out.size⟩)
    have q1 := NewT.trans _ _ _ k1 hn1
    clear k1 hn1 h_g3
    replace Rg1 := Lib.hid (q1.row Rg1.out)
    replace Rg2 := Lib.hid (q1.row Rg2.out)
    replace HM := Lib.hid (NewT.trans _ _ _ HM.out q1)
    clear q1
    have Rg3 := Lib.hid rr1
    clear rr1
    go_upto_region 2 with fail
    obtain ⟨q1_2, Q1_2⟩ : ∃ bq_, ((inG lim g) && (x.kind == ((dueX l lim g).kind))) = bq_ := ⟨_, rfl⟩
    obtain ⟨q2_2, Q2_2⟩ : ∃ bq_, (q1_2 && (x.step == ((dueX l lim g).step))) = bq_ := ⟨_, rfl⟩
    obtain ⟨q3_2, Q3_2⟩ : ∃ bq_, (q2_2 && (x.tr == ((dueX l lim g).tr))) = bq_ := ⟨_, rfl⟩
    obtain ⟨q4_2, Q4_2⟩ : ∃ bq_, (q3_2 && (x.back == ((dueX l lim g).back))) = bq_ := ⟨_, rfl⟩
    obtain ⟨q5_2, Q5_2⟩ : ∃ bq_, (q4_2 && (x.nd == ((dueX l lim g).nd))) = bq_ := ⟨_, rfl⟩
    refine wp_region_steps0 NewT [SV.eq (.bool (inG lim g)), SV.eq (.bool (inG lim g)), svIf (inG lim g) (SV.eq (.pointer (some ⟨g2, 0, none⟩))), svIf (inG lim g) (SV.eq (.int .i64 (x.kind))), svIf (inG lim g) (SV.eq (.pointer (some ⟨g3, 0, none⟩))), svIf (inG lim g) (SV.eq (.int .i64 ((dueX l lim g).kind))), svIf (inG lim g) (SV.eq (.bool (x.kind == ((dueX l lim g).kind)))), SV.eq (.bool (q1_2)), SV.eq (.bool (q1_2)), svIf q1_2 (SV.eq (.pointer (some ⟨g2, 3, none⟩))), svIf q1_2 (SV.eq (.int .i64 (x.step))), svIf q1_2 (SV.eq (.pointer (some ⟨g3, 3, none⟩))), svIf q1_2 (SV.eq (.int .i64 ((dueX l lim g).step))), svIf q1_2 (SV.eq (.bool (x.step == ((dueX l lim g).step)))), SV.eq (.bool (q2_2)), SV.eq (.bool (q2_2)), svIf q2_2 (SV.eq (.pointer (some ⟨g2, 4, none⟩))), svIf q2_2 (SV.eq (.int .i64 (x.tr))), svIf q2_2 (SV.eq (.pointer (some ⟨g3, 4, none⟩))), svIf q2_2 (SV.eq (.int .i64 ((dueX l lim g).tr))), svIf q2_2 (SV.eq (.bool (x.tr == ((dueX l lim g).tr)))), SV.eq (.bool (q3_2)), SV.eq (.bool (q3_2)), svIf q3_2 (SV.eq (.pointer (some ⟨g2, 5, none⟩))), svIf q3_2 (SV.eq (.bool (x.back))), svIf q3_2 (SV.eq (.pointer (some ⟨g3, 5, none⟩))), svIf q3_2 (SV.eq (.bool ((dueX l lim g).back))), svIf q3_2 (SV.eq (.bool (x.back == ((dueX l lim g).back)))), SV.eq (.bool (q4_2)), SV.eq (.bool (q4_2)), svIf q4_2 (SV.eq (.pointer (some ⟨g2, 7, none⟩))), svIf q4_2 (SV.eq (.int .i64 (x.nd))), svIf q4_2 (SV.eq (.pointer (some ⟨g3, 7, none⟩))), svIf q4_2 (SV.eq (.int .i64 ((dueX l lim g).nd))), svIf q4_2 (SV.eq (.bool (x.nd == ((dueX l lim g).nd)))), SV.eq (.bool (q5_2)), SV.eq (.bool (q5_2))] [([(8, none)], none), ([(15, some 0)], none), ([(4, none), (16, some 1)], some (16, true)), ([(17, some 2), (16, some 1)], some (16, true)), ([(7, none), (16, some 1)], some (16, true)), ([(19, some 4), (16, some 1)], some (16, true)), ([(18, some 3), (20, some 5), (16, some 1)], some (16, true)), ([(16, some 1), (21, some 6)], none), ([(22, some 7)], none), ([(4, none), (23, some 8)], some (23, true)), ([(24, some 9), (23, some 8)], some (23, true)), ([(7, none), (23, some 8)], some (23, true)), ([(26, some 11), (23, some 8)], some (23, true)), ([(25, some 10), (27, some 12), (23, some 8)], some (23, true)), ([(23, some 8), (28, some 13)], none), ([(29, some 14)], none), ([(4, none), (30, some 15)], some (30, true)), ([(31, some 16), (30, some 15)], some (30, true)), ([(7, none), (30, some 15)], some (30, true)), ([(33, some 18), (30, some 15)], some (30, true)), ([(32, some 17), (34, some 19), (30, some 15)], some (30, true)), ([(30, some 15), (35, some 20)], none), ([(36, some 21)], none), ([(4, none), (37, some 22)], some (37, true)), ([(38, some 23), (37, some 22)], some (37, true)), ([(7, none), (37, some 22)], some (37, true)), ([(40, some 25), (37, some 22)], some (37, true)), ([(39, some 24), (41, some 26), (37, some 22)], some (37, true)), ([(37, some 22), (42, some 27)], none), ([(43, some 28)], none), ([(4, none), (44, some 29)], some (44, true)), ([(45, some 30), (44, some 29)], some (44, true)), ([(7, none), (44, some 29)], some (44, true)), ([(47, some 32), (44, some 29)], some (44, true)), ([(46, some 31), (48, some 33), (44, some 29)], some (44, true)), ([(44, some 29), (49, some 34)], none), ([(50, some 35)], none)] 51 37 rfl rfl (by kernel_rfl) NewT.trans (NewT.refl _) (Nat.le_of_ble_eq_true rfl) ⟨?_, ?_, ?_, ?_, ?_, ?_, ?_, ?_, ?_, ?_, ?_, ?_, ?_, ?_, ?_, ?_, ?_, ?_, ?_, ?_, ?_, ?_, ?_, ?_, ?_, ?_, ?_, ?_, ?_, ?_, ?_, ?_, ?_, ?_, ?_, ?_, ?_, trivial⟩ ?_
    · exact fun a wx hT hF K hK => rely_wp rfl (opr_move (.inl rfl) (hK _ _ (NewT.refl _) hF.1))
    · exact fun a wx hT hF K hK => rely_wp rfl (opr_move (.inl rfl) (hK _ _ (NewT.refl _) hF.1))
    · exact fun a wx hT hF K hK => rely_if (rely_gt hF.2.1) (NewT.refl _) hK fun hE hK => opr_fldR (by decide) rfl hF.1 (hK _ _ (NewT.refl _) rfl)
    · exact fun a wx hT hF K hK => rely_if (rely_gt hF.2.1) (NewT.refl _) hK fun hE hK => opr_ldI (hT.row Rg2.out) (by decide) rfl rfl (hF.1 hE) (hK _ _ (NewT.refl _) rfl)
    · exact fun a wx hT hF K hK => rely_if (rely_gt hF.2.1) (NewT.refl _) hK fun hE hK => opr_fldR (by decide) rfl hF.1 (hK _ _ (NewT.refl _) rfl)
    · exact fun a wx hT hF K hK => rely_if (rely_gt hF.2.1) (NewT.refl _) hK fun hE hK => opr_ldI (hT.row Rg3.out) (by decide) rfl rfl (hF.1 hE) (hK _ _ (NewT.refl _) rfl)
    · exact fun a wx hT hF K hK => rely_if (rely_gt hF.2.2.1) (NewT.refl _) hK fun hE hK => opr_cmp (b := x.kind == ((dueX l lim g).kind)) (.inl ⟨rfl, rfl⟩) Try.underlying3 rfl (hF.1 hE) (hF.2.1 hE) (hK _ _ (NewT.refl _) rfl)
    · exact fun a wx hT hF K hK => rely_wp rfl (opr_pick_b rfl hF.1 (fun hb => hK _ _ (NewT.refl _) (pn_and1 Q1_2 (hF.2.1 hb) hb)) (fun hb => hK _ _ (NewT.refl _) (pn_and0 Q1_2 hb)))
    · exact fun a wx hT hF K hK => rely_wp rfl (opr_move (.inl rfl) (hK _ _ (NewT.refl _) hF.1))
    · exact fun a wx hT hF K hK => rely_if (rely_gt hF.2.1) (NewT.refl _) hK fun hE hK => opr_fldR (by decide) rfl hF.1 (hK _ _ (NewT.refl _) rfl)
    · exact fun a wx hT hF K hK => rely_if (rely_gt hF.2.1) (NewT.refl _) hK fun hE hK => opr_ldI (hT.row Rg2.out) (by decide) rfl rfl (hF.1 hE) (hK _ _ (NewT.refl _) rfl)
    · exact fun a wx hT hF K hK => rely_if (rely_gt hF.2.1) (NewT.refl _) hK fun hE hK => opr_fldR (by decide) rfl hF.1 (hK _ _ (NewT.refl _) rfl)
    · exact fun a wx hT hF K hK => rely_if (rely_gt hF.2.1) (NewT.refl _) hK fun hE hK => opr_ldI (hT.row Rg3.out) (by decide) rfl rfl (hF.1 hE) (hK _ _ (NewT.refl _) rfl)
    · exact fun a wx hT hF K hK => rely_if (rely_gt hF.2.2.1) (NewT.refl _) hK fun hE hK => opr_cmp (b := x.step == ((dueX l lim g).step)) (.inl ⟨rfl, rfl⟩) Try.underlying3 rfl (hF.1 hE) (hF.2.1 hE) (hK _ _ (NewT.refl _) rfl)
    · exact fun a wx hT hF K hK => rely_wp rfl (opr_pick_b rfl hF.1 (fun hb => hK _ _ (NewT.refl _) (pn_and1 Q2_2 (hF.2.1 hb) hb)) (fun hb => hK _ _ (NewT.refl _) (pn_and0 Q2_2 hb)))
    · exact fun a wx hT hF K hK => rely_wp rfl (opr_move (.inl rfl) (hK _ _ (NewT.refl _) hF.1))
    · exact fun a wx hT hF K hK => rely_if (rely_gt hF.2.1) (NewT.refl _) hK fun hE hK => opr_fldR (by decide) rfl hF.1 (hK _ _ (NewT.refl _) rfl)
    · exact fun a wx hT hF K hK => rely_if (rely_gt hF.2.1) (NewT.refl _) hK fun hE hK => opr_ldI (hT.row Rg2.out) (by decide) rfl rfl (hF.1 hE) (hK _ _ (NewT.refl _) rfl)
    · exact fun a wx hT hF K hK => rely_if (rely_gt hF.2.1) (NewT.refl _) hK fun hE hK => opr_fldR (by decide) rfl hF.1 (hK _ _ (NewT.refl _) rfl)
    · exact fun a wx hT hF K hK => rely_if (rely_gt hF.2.1) (NewT.refl _) hK fun hE hK => opr_ldI (hT.row Rg3.out) (by decide) rfl rfl (hF.1 hE) (hK _ _ (NewT.refl _) rfl)
    · exact fun a wx hT hF K hK => rely_if (rely_gt hF.2.2.1) (NewT.refl _) hK fun hE hK => opr_cmp (b := x.tr == ((dueX l lim g).tr)) (.inl ⟨rfl, rfl⟩) Try.underlying3 rfl (hF.1 hE) (hF.2.1 hE) (hK _ _ (NewT.refl _) rfl)
    · exact fun a wx hT hF K hK => rely_wp rfl (opr_pick_b rfl hF.1 (fun hb => hK _ _ (NewT.refl _) (pn_and1 Q3_2 (hF.2.1 hb) hb)) (fun hb => hK _ _ (NewT.refl _) (pn_and0 Q3_2 hb)))
    · exact fun a wx hT hF K hK => rely_wp rfl (opr_move (.inl rfl) (hK _ _ (NewT.refl _) hF.1))
    · exact fun a wx hT hF K hK => rely_if (rely_gt hF.2.1) (NewT.refl _) hK fun hE hK => opr_fldR (by decide) rfl hF.1 (hK _ _ (NewT.refl _) rfl)
    · exact fun a wx hT hF K hK => rely_if (rely_gt hF.2.1) (NewT.refl _) hK fun hE hK => opr_ldQ (hT.row Rg2.out) (by decide) rfl rfl (hF.1 hE) (hK _ _ (NewT.refl _) rfl)
    · exact fun a wx hT hF K hK => rely_if (rely_gt hF.2.1) (NewT.refl _) hK fun hE hK => opr_fldR (by decide) rfl hF.1 (hK _ _ (NewT.refl _) rfl)
    · exact fun a wx hT hF K hK => rely_if (rely_gt hF.2.1) (NewT.refl _) hK fun hE hK => opr_ldQ (hT.row Rg3.out) (by decide) rfl rfl (hF.1 hE) (hK _ _ (NewT.refl _) rfl)
    · exact fun a wx hT hF K hK => rely_if (rely_gt hF.2.2.1) (NewT.refl _) hK fun hE hK => opr_eqlQ (b := x.back == ((dueX l lim g).back)) (rfl) rfl (hF.1 hE) (hF.2.1 hE) (hK _ _ (NewT.refl _) rfl)
    · exact fun a wx hT hF K hK => rely_wp rfl (opr_pick_b rfl hF.1 (fun hb => hK _ _ (NewT.refl _) (pn_and1 Q4_2 (hF.2.1 hb) hb)) (fun hb => hK _ _ (NewT.refl _) (pn_and0 Q4_2 hb)))
    · exact fun a wx hT hF K hK => rely_wp rfl (opr_move (.inl rfl) (hK _ _ (NewT.refl _) hF.1))
    · exact fun a wx hT hF K hK => rely_if (rely_gt hF.2.1) (NewT.refl _) hK fun hE hK => opr_fldR (by decide) rfl hF.1 (hK _ _ (NewT.refl _) rfl)
    · exact fun a wx hT hF K hK => rely_if (rely_gt hF.2.1) (NewT.refl _) hK fun hE hK => opr_ldI (hT.row Rg2.out) (by decide) rfl rfl (hF.1 hE) (hK _ _ (NewT.refl _) rfl)
    · exact fun a wx hT hF K hK => rely_if (rely_gt hF.2.1) (NewT.refl _) hK fun hE hK => opr_fldR (by decide) rfl hF.1 (hK _ _ (NewT.refl _) rfl)
    · exact fun a wx hT hF K hK => rely_if (rely_gt hF.2.1) (NewT.refl _) hK fun hE hK => opr_ldI (hT.row Rg3.out) (by decide) rfl rfl (hF.1 hE) (hK _ _ (NewT.refl _) rfl)
    · exact fun a wx hT hF K hK => rely_if (rely_gt hF.2.2.1) (NewT.refl _) hK fun hE hK => opr_cmp (b := x.nd == ((dueX l lim g).nd)) (.inl ⟨rfl, rfl⟩) Try.underlying3 rfl (hF.1 hE) (hF.2.1 hE) (hK _ _ (NewT.refl _) rfl)
    · exact fun a wx hT hF K hK => rely_wp rfl (opr_pick_b rfl hF.1 (fun hb => hK _ _ (NewT.refl _) (pn_and1 Q5_2 (hF.2.1 hb) hb)) (fun hb => hK _ _ (NewT.refl _) (pn_and0 Q5_2 hb)))
    · exact fun a wx hT hF K hK => rely_wp rfl (opr_move (.inr rfl) (hK _ _ (NewT.refl _) hF.1))
    · intro w2 k2
      iterate 2 (intro u h; obtain rfl := Eq.symm (h (by simp)); clear h)
      iterate 5 (intro _ _)
      iterate 2 (intro u h; obtain rfl := Eq.symm (h (by simp)); clear h)
      iterate 5 (intro _ _)
      iterate 2 (intro u h; obtain rfl := Eq.symm (h (by simp)); clear h)
      iterate 5 (intro _ _)
      iterate 2 (intro u h; obtain rfl := Eq.symm (h (by simp)); clear h)
      iterate 5 (intro _ _)
      iterate 2 (intro u h; obtain rfl := Eq.symm (h (by simp)); clear h)
      iterate 5 (intro _ _)
      iterate 2 (intro u h; obtain rfl := Eq.symm (h (by simp)); clear h)
      subst Q5_2 Q4_2 Q3_2 Q2_2 Q1_2
      refine relyEnd_nil rfl ?_
      refine wpList_end rfl ?_
      simp only [Act.put, List.setIfInBounds_toArray, List.set_cons_zero, List.set_cons_succ]
      go_simp
      replace Rg1 := Lib.hid (k2.row Rg1.out)
      replace Rg2 := Lib.hid (k2.row Rg2.out)
      replace Rg3 := Lib.hid (k2.row Rg3.out)
      replace HM := Lib.hid (NewT.trans _ _ _ HM.out k2)
      clear k2
      go_wp2
      go_ret
      exact ⟨_, rfl, HM.out, rfl⟩
set_option maxHeartbeats 4000000 in
theorem isOut_cv (sv : Value) (l : List (Int × Int)) (g : Sg) (x : Rc) (v : Value) (w : World) (hs : RdP w sv l) (hx : RecV w v x) (ok : OkG l g) : Cv 52 #[.agg (rowA 10 (sgF sv g)), v] w (.eq (.bool (isOutB l g x))) := by
  obtain ⟨su, dv, rfl, hsx, hdx⟩ := hx
  have HX : Hid (RecV w (.agg (rowA 109 (recF x su dv))) x) := Lib.hid ⟨su, dv, rfl, hsx, hdx⟩
  have HSX := Lib.hid hsx
  have HD := Lib.hid hdx
  clear hsx hdx
  unfold Cv
  have HS := Lib.hid hs
  have HOK := Lib.hid ok
  have HL6 : Hid (l.length ≤ 6) := Lib.hid ok.len.2
  have HTR := Lib.hid ok.tr
  clear hs ok
  go_enter Try.func52, Try.ntmps52
  go_upto_region 1 with fail
  have r_g1 := (rowIs_box w 48 10 (sgF sv g)).alloc (.cells (rowA 109 (recF x su dv)) 46)
  have r_g2 := rowIs_box (w.alloc (.cells (rowA 10 (sgF sv g)) 48)) 46 109 (recF x su dv)
  rw [World.size_alloc] at r_g2
  have hN : NewT w ((w.alloc (.cells (rowA 10 (sgF sv g)) 48)).alloc (.cells (rowA 109 (recF x su dv)) 46)) := (NewT.trans _ _ _ (NewT.alloc _ _) (NewT.alloc _ _))
  change Code.wp _ _ _ _ ((w.alloc (.cells (rowA 10 (sgF sv g)) 48)).alloc (.cells (rowA 109 (recF x su dv)) 46))
  generalize ((w.alloc (.cells (rowA 10 (sgF sv g)) 48)).alloc (.cells (rowA 109 (recF x su dv)) 46)) = W0 at r_g1 r_g2 hN ⊢
  obtain ⟨g1, h_g1⟩ : ∃ g_, w.heap.size = g_ := ⟨_, rfl⟩
  obtain ⟨g2, h_g2⟩ : ∃ g_, w.heap.size + 1 = g_ := ⟨_, rfl⟩
  have HG : Hid (w.heap.size ≤ g1 ∧ g1 < g2) := Lib.hid (by omega)
  rw [h_g1] at r_g1
  rw [h_g2] at r_g2
  try rw [h_g2]
  simp only [h_g1]
  have Rg1 := Lib.hid r_g1
  have Rg2 := Lib.hid r_g2
  have HM := Lib.hid hN
  clear r_g1 r_g2 hN h_g1 h_g2
  go_upto_region 1 with fail
  refine wp_region_steps0 NewT [SV.eq (.agg (rowA 10 (sgF sv g))), SV.eq ((.tuple #[.int .i64 (nextI l g), .bool (nextB l g)])), SV.eq ((.tuple #[.int .i64 (nextI l g), .bool (nextB l g)])), SV.eq (.int .i64 (nextI l g)), SV.eq (.bool (nextB l g))] [([(2, none)], none), ([(8, some 0)], none), ([(9, some 1)], none), ([(7, some 2)], none), ([(7, some 2)], none)] 37 5 rfl rfl (by kernel_rfl) NewT.trans (NewT.refl _) (Nat.le_of_ble_eq_true rfl) ⟨?_, ?_, ?_, ?_, ?_, trivial⟩ ?_
  · exact fun a wx hT hF K hK => rely_wp rfl (opr_ldU (hT.row Rg1.out) rfl hF.1 (hK _ _ (NewT.refl _) rfl))
  · exact fun a wx hT hF K hK => rely_wp rfl (opr_cv (next_cv sv l g wx ((NewT.trans _ _ _ HM.out hT).pairs HS.out) HL6.out) rfl Try.func64 (by kernel_rfl) (by kernel_rfl) (evs1 hF.1) hK)
  · exact fun a wx hT hF K hK => rely_wp rfl (opr_move (.inl rfl) (hK _ _ (NewT.refl _) hF.1))
  · exact fun a wx hT hF K hK => rely_wp rfl (opr_ext rfl hF.1 rfl (hK _ _ (NewT.refl _) rfl))
  · exact fun a wx hT hF K hK => rely_wp rfl (opr_ext rfl hF.1 rfl (hK _ _ (NewT.refl _) rfl))
  · intro w1 k1
    iterate 5 (intro u h; obtain rfl := Eq.symm (h (by simp)); clear h)
    refine relyEnd_nil rfl ?_
    simp only [Act.put, List.setIfInBounds_toArray, List.set_cons_zero, List.set_cons_succ]
    refine wpList_plain rfl (fun K hK => ?_)
    refine opr_move (.inr rfl) (hK _ _ ?_)
    clear hK K
    simp only [Act.put, List.setIfInBounds_toArray, List.set_cons_zero, List.set_cons_succ]
    refine wpList_plain rfl (fun K hK => ?_)
    refine opr_move (.inr rfl) (hK _ _ ?_)
    clear hK K
    refine wpList_end rfl ?_
    simp only [Act.put, List.setIfInBounds_toArray, List.set_cons_zero, List.set_cons_succ]
    go_simp
    replace Rg1 := Lib.hid (k1.row Rg1.out)
    replace Rg2 := Lib.hid (k1.row Rg2.out)
    replace HM := Lib.hid (NewT.trans _ _ _ HM.out k1)
    clear k1
    go_upto_region 2 with fail
    obtain ⟨q1_2, Q1_2⟩ : ∃ bq_, ((g.wt && (nextB l g)) && (x.step == (nextI l g))) = bq_ := ⟨_, rfl⟩
    obtain ⟨q2_2, Q2_2⟩ : ∃ bq_, ((q1_2 && (x.tr == g.tr)) && (x.back == g.bk)) = bq_ := ⟨_, rfl⟩
    refine wp_region_steps0 NewT [SV.eq (.pointer (some ⟨g1, 4, none⟩)), SV.eq (.bool (g.wt)), SV.eq (.bool (g.wt)), svIf (g.wt) (SV.eq (.bool (nextB l g))), SV.eq (.bool (g.wt && (nextB l g))), SV.eq (.bool (g.wt && (nextB l g))), svIf (g.wt && (nextB l g)) (SV.eq (.pointer (some ⟨g2, 3, none⟩))), svIf (g.wt && (nextB l g)) (SV.eq (.int .i64 (x.step))), svIf (g.wt && (nextB l g)) (SV.eq (.int .i64 (nextI l g))), svIf (g.wt && (nextB l g)) (SV.eq (.bool (x.step == (nextI l g)))), SV.eq (.bool (q1_2)), SV.eq (.bool (q1_2)), svIf q1_2 (SV.eq (.pointer (some ⟨g2, 4, none⟩))), svIf q1_2 (SV.eq (.int .i64 (x.tr))), svIf q1_2 (SV.eq (.pointer (some ⟨g1, 3, none⟩))), svIf q1_2 (SV.eq (.int .i64 (g.tr))), svIf q1_2 (SV.eq (.bool (x.tr == g.tr))), SV.eq (.bool (q1_2 && (x.tr == g.tr))), SV.eq (.bool (q1_2 && (x.tr == g.tr))), svIf (q1_2 && (x.tr == g.tr)) (SV.eq (.pointer (some ⟨g2, 5, none⟩))), svIf (q1_2 && (x.tr == g.tr)) (SV.eq (.bool (x.back))), svIf (q1_2 && (x.tr == g.tr)) (SV.eq (.pointer (some ⟨g1, 5, none⟩))), svIf (q1_2 && (x.tr == g.tr)) (SV.eq (.bool (g.bk))), svIf (q1_2 && (x.tr == g.tr)) (SV.eq (.bool (x.back == g.bk))), SV.eq (.bool (q2_2)), SV.eq (.bool (q2_2))] [([(2, none)], none), ([(12, some 0)], none), ([(13, some 1)], none), ([(6, none), (14, some 2)], some (14, true)), ([(14, some 2), (15, some 3)], none), ([(16, some 4)], none), ([(3, none), (17, some 5)], some (17, true)), ([(18, some 6), (17, some 5)], some (17, true)), ([(5, none), (17, some 5)], some (17, true)), ([(19, some 7), (20, some 8), (17, some 5)], some (17, true)), ([(17, some 5), (21, some 9)], none), ([(22, some 10)], none), ([(3, none), (23, some 11)], some (23, true)), ([(24, some 12), (23, some 11)], some (23, true)), ([(2, none), (23, some 11)], some (23, true)), ([(26, some 14), (23, some 11)], some (23, true)), ([(25, some 13), (27, some 15), (23, some 11)], some (23, true)), ([(23, some 11), (28, some 16)], none), ([(29, some 17)], none), ([(3, none), (30, some 18)], some (30, true)), ([(31, some 19), (30, some 18)], some (30, true)), ([(2, none), (30, some 18)], some (30, true)), ([(33, some 21), (30, some 18)], some (30, true)), ([(32, some 20), (34, some 22), (30, some 18)], some (30, true)), ([(30, some 18), (35, some 23)], none), ([(36, some 24)], none)] 37 26 rfl rfl (by kernel_rfl) NewT.trans (NewT.refl _) (Nat.le_of_ble_eq_true rfl) ⟨?_, ?_, ?_, ?_, ?_, ?_, ?_, ?_, ?_, ?_, ?_, ?_, ?_, ?_, ?_, ?_, ?_, ?_, ?_, ?_, ?_, ?_, ?_, ?_, ?_, ?_, trivial⟩ ?_
    · exact fun a wx hT hF K hK => rely_wp rfl (opr_fldU4 rfl hF.1 (hK _ _ (NewT.refl _) rfl))
    · exact fun a wx hT hF K hK => rely_wp rfl (opr_ldQ (hT.row Rg1.out) (by decide) rfl rfl hF.1 (hK _ _ (NewT.refl _) rfl))
    · exact fun a wx hT hF K hK => rely_wp rfl (opr_move (.inl rfl) (hK _ _ (NewT.refl _) hF.1))
    · exact fun a wx hT hF K hK => rely_if (rely_gt hF.2.1) (NewT.refl _) hK fun hE hK => opr_move (.inl rfl) (hK _ _ (NewT.refl _) hF.1)
    · exact fun a wx hT hF K hK => rely_wp rfl (opr_pick_b rfl hF.1 (fun hb => hK _ _ (NewT.refl _) (pk_and1 (hF.2.1 hb) hb)) (fun hb => hK _ _ (NewT.refl _) (pk_and0 hb)))
    · exact fun a wx hT hF K hK => rely_wp rfl (opr_move (.inl rfl) (hK _ _ (NewT.refl _) hF.1))
    · exact fun a wx hT hF K hK => rely_if (rely_gt hF.2.1) (NewT.refl _) hK fun hE hK => opr_fldR (by decide) rfl hF.1 (hK _ _ (NewT.refl _) rfl)
    · exact fun a wx hT hF K hK => rely_if (rely_gt hF.2.1) (NewT.refl _) hK fun hE hK => opr_ldI (hT.row Rg2.out) (by decide) rfl rfl (hF.1 hE) (hK _ _ (NewT.refl _) rfl)
    · exact fun a wx hT hF K hK => rely_if (rely_gt hF.2.1) (NewT.refl _) hK fun hE hK => opr_move (.inl rfl) (hK _ _ (NewT.refl _) hF.1)
    · exact fun a wx hT hF K hK => rely_if (rely_gt hF.2.2.1) (NewT.refl _) hK fun hE hK => opr_cmp (b := x.step == (nextI l g)) (.inl ⟨rfl, rfl⟩) Try.underlying3 rfl (hF.1 hE) (hF.2.1 hE) (hK _ _ (NewT.refl _) rfl)
    · exact fun a wx hT hF K hK => rely_wp rfl (opr_pick_b rfl hF.1 (fun hb => hK _ _ (NewT.refl _) (pn_and1 Q1_2 (hF.2.1 hb) hb)) (fun hb => hK _ _ (NewT.refl _) (pn_and0 Q1_2 hb)))
    · exact fun a wx hT hF K hK => rely_wp rfl (opr_move (.inl rfl) (hK _ _ (NewT.refl _) hF.1))
    · exact fun a wx hT hF K hK => rely_if (rely_gt hF.2.1) (NewT.refl _) hK fun hE hK => opr_fldR (by decide) rfl hF.1 (hK _ _ (NewT.refl _) rfl)
    · exact fun a wx hT hF K hK => rely_if (rely_gt hF.2.1) (NewT.refl _) hK fun hE hK => opr_ldI (hT.row Rg2.out) (by decide) rfl rfl (hF.1 hE) (hK _ _ (NewT.refl _) rfl)
    · exact fun a wx hT hF K hK => rely_if (rely_gt hF.2.1) (NewT.refl _) hK fun hE hK => opr_fldU3 rfl hF.1 (hK _ _ (NewT.refl _) rfl)
    · exact fun a wx hT hF K hK => rely_if (rely_gt hF.2.1) (NewT.refl _) hK fun hE hK => opr_ldI (hT.row Rg1.out) (by decide) rfl rfl (hF.1 hE) (hK _ _ (NewT.refl _) rfl)
    · exact fun a wx hT hF K hK => rely_if (rely_gt hF.2.2.1) (NewT.refl _) hK fun hE hK => opr_cmp (b := x.tr == g.tr) (.inl ⟨rfl, rfl⟩) Try.underlying3 rfl (hF.1 hE) (hF.2.1 hE) (hK _ _ (NewT.refl _) rfl)
    · exact fun a wx hT hF K hK => rely_wp rfl (opr_pick_b rfl hF.1 (fun hb => hK _ _ (NewT.refl _) (pk_and1 (hF.2.1 hb) hb)) (fun hb => hK _ _ (NewT.refl _) (pk_and0 hb)))
    · exact fun a wx hT hF K hK => rely_wp rfl (opr_move (.inl rfl) (hK _ _ (NewT.refl _) hF.1))
    · exact fun a wx hT hF K hK => rely_if (rely_gt hF.2.1) (NewT.refl _) hK fun hE hK => opr_fldR (by decide) rfl hF.1 (hK _ _ (NewT.refl _) rfl)
    · exact fun a wx hT hF K hK => rely_if (rely_gt hF.2.1) (NewT.refl _) hK fun hE hK => opr_ldQ (hT.row Rg2.out) (by decide) rfl rfl (hF.1 hE) (hK _ _ (NewT.refl _) rfl)
    · exact fun a wx hT hF K hK => rely_if (rely_gt hF.2.1) (NewT.refl _) hK fun hE hK => opr_fldU5 rfl hF.1 (hK _ _ (NewT.refl _) rfl)
    · exact fun a wx hT hF K hK => rely_if (rely_gt hF.2.1) (NewT.refl _) hK fun hE hK => opr_ldQ (hT.row Rg1.out) (by decide) rfl rfl (hF.1 hE) (hK _ _ (NewT.refl _) rfl)
    · exact fun a wx hT hF K hK => rely_if (rely_gt hF.2.2.1) (NewT.refl _) hK fun hE hK => opr_eqlQ (b := x.back == g.bk) (rfl) rfl (hF.1 hE) (hF.2.1 hE) (hK _ _ (NewT.refl _) rfl)
    · exact fun a wx hT hF K hK => rely_wp rfl (opr_pick_b rfl hF.1 (fun hb => hK _ _ (NewT.refl _) (pn_and1 Q2_2 (hF.2.1 hb) hb)) (fun hb => hK _ _ (NewT.refl _) (pn_and0 Q2_2 hb)))
    · exact fun a wx hT hF K hK => rely_wp rfl (opr_move (.inr rfl) (hK _ _ (NewT.refl _) hF.1))
    · intro w2 k2
      iterate 3 (intro u h; obtain rfl := Eq.symm (h (by simp)); clear h)
      intro _ _
      iterate 2 (intro u h; obtain rfl := Eq.symm (h (by simp)); clear h)
      iterate 4 (intro _ _)
      iterate 2 (intro u h; obtain rfl := Eq.symm (h (by simp)); clear h)
      iterate 5 (intro _ _)
      iterate 2 (intro u h; obtain rfl := Eq.symm (h (by simp)); clear h)
      iterate 5 (intro _ _)
      iterate 2 (intro u h; obtain rfl := Eq.symm (h (by simp)); clear h)
      subst Q2_2 Q1_2
      refine relyEnd_nil rfl ?_
      refine wpList_end rfl ?_
      simp only [Act.put, List.setIfInBounds_toArray, List.set_cons_zero, List.set_cons_succ]
      go_simp
      replace Rg1 := Lib.hid (k2.row Rg1.out)
      replace Rg2 := Lib.hid (k2.row Rg2.out)
      replace HM := Lib.hid (NewT.trans _ _ _ HM.out k2)
      clear k2
      go_wp2
      go_ret
      exact ⟨_, rfl, HM.out, rfl⟩
set_option maxHeartbeats 4000000 in
theorem fits_cv (sv : Value) (l : List (Int × Int)) (g : Sg) (x : Rc) (v : Value) (lim : Int) (w : World) (hs : RdP w sv l) (hx : RecV w v x) (ok : OkG l g) : Cv 38 #[.agg (rowA 10 (sgF sv g)), v, .int .i64 lim] w (.eq (.bool (fitsB l lim g x))) := by
  obtain ⟨su, dv, rfl, hsx, hdx⟩ := hx
  have HX : Hid (RecV w (.agg (rowA 109 (recF x su dv))) x) := Lib.hid ⟨su, dv, rfl, hsx, hdx⟩
  have HSX := Lib.hid hsx
  have HD := Lib.hid hdx
  clear hsx hdx
  unfold Cv
  have HS := Lib.hid hs
  have HOK := Lib.hid ok
  have HL6 : Hid (l.length ≤ 6) := Lib.hid ok.len.2
  have HTR := Lib.hid ok.tr
  clear hs ok
  go_enter Try.func38, Try.ntmps38
  go_upto_region 1 with fail
  have r_g1 := (rowIs_box w 48 10 (sgF sv g)).alloc (.cells (rowA 109 (recF x su dv)) 46)
  have r_g2 := rowIs_box (w.alloc (.cells (rowA 10 (sgF sv g)) 48)) 46 109 (recF x su dv)
  rw [World.size_alloc] at r_g2
  have hN : NewT w ((w.alloc (.cells (rowA 10 (sgF sv g)) 48)).alloc (.cells (rowA 109 (recF x su dv)) 46)) := (NewT.trans _ _ _ (NewT.alloc _ _) (NewT.alloc _ _))
  change Code.wp _ _ _ _ ((w.alloc (.cells (rowA 10 (sgF sv g)) 48)).alloc (.cells (rowA 109 (recF x su dv)) 46))
  generalize ((w.alloc (.cells (rowA 10 (sgF sv g)) 48)).alloc (.cells (rowA 109 (recF x su dv)) 46)) = W0 at r_g1 r_g2 hN ⊢
  obtain ⟨g1, h_g1⟩ : ∃ g_, w.heap.size = g_ := ⟨_, rfl⟩
  obtain ⟨g2, h_g2⟩ : ∃ g_, w.heap.size + 1 = g_ := ⟨_, rfl⟩
  have HG : Hid (w.heap.size ≤ g1 ∧ g1 < g2) := Lib.hid (by omega)
  rw [h_g1] at r_g1
  rw [h_g2] at r_g2
  try rw [h_g2]
  simp only [h_g1]
  have Rg1 := Lib.hid r_g1
  have Rg2 := Lib.hid r_g2
  have HM := Lib.hid hN
  clear r_g1 r_g2 hN h_g1 h_g2
  have c0 : W0.cell? ⟨g2, 0, none⟩ = some (.int .i64 x.kind) := Rg2.out.cell (i := 0) (by omega)
  by_cases hk : x.kind = 2
  · have HE : Hid (fitsB l lim g x = isDueB l lim g x) := Lib.hid (by unfold fitsB; rw [if_pos (.inl hk)])
    rw [hk] at c0
    clear hk
    go_upto_region 4 with fail
    clear c0
    refine wp_region_steps0 NewT [SV.eq (.agg (rowA 10 (sgF sv g))), SV.eq (.agg (rowA 109 (recF x su dv))), SV.eq (.int .i64 (lim)), SV.eq (.bool (isDueB l lim g x)), SV.eq (.bool (isDueB l lim g x))] [([(3, none)], none), ([(4, none)], none), ([(2, none)], none), ([(12, some 0), (13, some 1), (14, some 2)], none), ([(15, some 3)], none)] 22 5 rfl rfl (by kernel_rfl) NewT.trans (NewT.refl _) (Nat.le_of_ble_eq_true rfl) ⟨?_, ?_, ?_, ?_, ?_, trivial⟩ ?_
    · exact fun a wx hT hF K hK => rely_wp rfl (opr_ldU (hT.row Rg1.out) rfl hF.1 (hK _ _ (NewT.refl _) rfl))
    · exact fun a wx hT hF K hK => rely_wp rfl (opr_ldR (hT.row Rg2.out) rfl hF.1 (hK _ _ (NewT.refl _) rfl))
    · exact fun a wx hT hF K hK => rely_wp rfl (opr_move (.inl rfl) (hK _ _ (NewT.refl _) hF.1))
    · exact fun a wx hT hF K hK => rely_wp rfl (opr_cv (isDue_cv sv l g x _ lim wx ((NewT.trans _ _ _ HM.out hT).pairs HS.out) ((NewT.trans _ _ _ HM.out hT).recV HX.out) HOK.out) rfl Try.func51 (by kernel_rfl) (by kernel_rfl) (evs3 hF.1 hF.2.1 hF.2.2.1) hK)
    · exact fun a wx hT hF K hK => rely_wp rfl (opr_move (.inr rfl) (hK _ _ (NewT.refl _) hF.1))
    · intro w1 k1
      iterate 5 (intro u h; obtain rfl := Eq.symm (h (by simp)); clear h)
      refine relyEnd_nil rfl ?_
      refine wpList_end rfl ?_
      simp only [Act.put, List.setIfInBounds_toArray, List.set_cons_zero, List.set_cons_succ]
      go_simp
      replace Rg1 := Lib.hid (k1.row Rg1.out)
      replace Rg2 := Lib.hid (k1.row Rg2.out)
      replace HM := Lib.hid (NewT.trans _ _ _ HM.out k1)
      clear k1
      go_wp2
      go_ret
      exact ⟨_, rfl, HM.out, by show _ = Value.bool _; rw [HE.out]; first | done | rfl⟩
  have k2 := hk
  clear hk
  by_cases hk : x.kind = 5
  · have HE : Hid (fitsB l lim g x = isDueB l lim g x) := Lib.hid (by unfold fitsB; rw [if_pos (.inr hk)])
    rw [hk] at c0
    clear hk k2
    go_upto_region 4 with fail
    clear c0
    refine wp_region_steps0 NewT [SV.eq (.agg (rowA 10 (sgF sv g))), SV.eq (.agg (rowA 109 (recF x su dv))), SV.eq (.int .i64 (lim)), SV.eq (.bool (isDueB l lim g x)), SV.eq (.bool (isDueB l lim g x))] [([(3, none)], none), ([(4, none)], none), ([(2, none)], none), ([(12, some 0), (13, some 1), (14, some 2)], none), ([(15, some 3)], none)] 22 5 rfl rfl (by kernel_rfl) NewT.trans (NewT.refl _) (Nat.le_of_ble_eq_true rfl) ⟨?_, ?_, ?_, ?_, ?_, trivial⟩ ?_
    · exact fun a wx hT hF K hK => rely_wp rfl (opr_ldU (hT.row Rg1.out) rfl hF.1 (hK _ _ (NewT.refl _) rfl))
    · exact fun a wx hT hF K hK => rely_wp rfl (opr_ldR (hT.row Rg2.out) rfl hF.1 (hK _ _ (NewT.refl _) rfl))
    · exact fun a wx hT hF K hK => rely_wp rfl (opr_move (.inl rfl) (hK _ _ (NewT.refl _) hF.1))
    · exact fun a wx hT hF K hK => rely_wp rfl (opr_cv (isDue_cv sv l g x _ lim wx ((NewT.trans _ _ _ HM.out hT).pairs HS.out) ((NewT.trans _ _ _ HM.out hT).recV HX.out) HOK.out) rfl Try.func51 (by kernel_rfl) (by kernel_rfl) (evs3 hF.1 hF.2.1 hF.2.2.1) hK)
    · exact fun a wx hT hF K hK => rely_wp rfl (opr_move (.inr rfl) (hK _ _ (NewT.refl _) hF.1))
    · intro w2 k2
      iterate 5 (intro u h; obtain rfl := Eq.symm (h (by simp)); clear h)
      refine relyEnd_nil rfl ?_
      refine wpList_end rfl ?_
      simp only [Act.put, List.setIfInBounds_toArray, List.set_cons_zero, List.set_cons_succ]
      go_simp
      replace Rg1 := Lib.hid (k2.row Rg1.out)
      replace Rg2 := Lib.hid (k2.row Rg2.out)
      replace HM := Lib.hid (NewT.trans _ _ _ HM.out k2)
      clear k2
      go_wp2
      go_ret
      exact ⟨_, rfl, HM.out, by show _ = Value.bool _; rw [HE.out]; first | done | rfl⟩
  have k5 := hk
  clear hk
  by_cases hk : x.kind = 3
  · have HE : Hid (fitsB l lim g x = isOutB l g x) := Lib.hid (by unfold fitsB; rw [if_neg (by omega), if_pos (.inl hk)])
    rw [hk] at c0
    clear hk k2 k5
    go_upto_region 7 with fail
    clear c0
    refine wp_region_steps0 NewT [SV.eq (.agg (rowA 10 (sgF sv g))), SV.eq (.agg (rowA 109 (recF x su dv))), SV.eq (.bool (isOutB l g x)), SV.eq (.bool (isOutB l g x))] [([(3, none)], none), ([(4, none)], none), ([(19, some 0), (20, some 1)], none), ([(21, some 2)], none)] 22 4 rfl rfl (by kernel_rfl) NewT.trans (NewT.refl _) (Nat.le_of_ble_eq_true rfl) ⟨?_, ?_, ?_, ?_, trivial⟩ ?_
    · exact fun a wx hT hF K hK => rely_wp rfl (opr_ldU (hT.row Rg1.out) rfl hF.1 (hK _ _ (NewT.refl _) rfl))
    · exact fun a wx hT hF K hK => rely_wp rfl (opr_ldR (hT.row Rg2.out) rfl hF.1 (hK _ _ (NewT.refl _) rfl))
    · exact fun a wx hT hF K hK => rely_wp rfl (opr_cv (isOut_cv sv l g x _ wx ((NewT.trans _ _ _ HM.out hT).pairs HS.out) ((NewT.trans _ _ _ HM.out hT).recV HX.out) HOK.out) rfl Try.func52 (by kernel_rfl) (by kernel_rfl) (evs2 hF.1 hF.2.1) hK)
    · exact fun a wx hT hF K hK => rely_wp rfl (opr_move (.inr rfl) (hK _ _ (NewT.refl _) hF.1))
    · intro w3 k3
      iterate 4 (intro u h; obtain rfl := Eq.symm (h (by simp)); clear h)
      refine relyEnd_nil rfl ?_
      refine wpList_end rfl ?_
      simp only [Act.put, List.setIfInBounds_toArray, List.set_cons_zero, List.set_cons_succ]
      go_simp
      replace Rg1 := Lib.hid (k3.row Rg1.out)
      replace Rg2 := Lib.hid (k3.row Rg2.out)
      replace HM := Lib.hid (NewT.trans _ _ _ HM.out k3)
      clear k3
      go_wp2
      go_ret
      exact ⟨_, rfl, HM.out, by show _ = Value.bool _; rw [HE.out]; first | done | rfl⟩
  have k3 := hk
  clear hk
  by_cases hk : x.kind = 4
  · have HE : Hid (fitsB l lim g x = isOutB l g x) := Lib.hid (by unfold fitsB; rw [if_neg (by omega), if_pos (.inr hk)])
    rw [hk] at c0
    clear hk k2 k5 k3
    go_upto_region 7 with fail
    clear c0
    refine wp_region_steps0 NewT [SV.eq (.agg (rowA 10 (sgF sv g))), SV.eq (.agg (rowA 109 (recF x su dv))), SV.eq (.bool (isOutB l g x)), SV.eq (.bool (isOutB l g x))] [([(3, none)], none), ([(4, none)], none), ([(19, some 0), (20, some 1)], none), ([(21, some 2)], none)] 22 4 rfl rfl (by kernel_rfl) NewT.trans (NewT.refl _) (Nat.le_of_ble_eq_true rfl) ⟨?_, ?_, ?_, ?_, trivial⟩ ?_
    · exact fun a wx hT hF K hK => rely_wp rfl (opr_ldU (hT.row Rg1.out) rfl hF.1 (hK _ _ (NewT.refl _) rfl))
    · exact fun a wx hT hF K hK => rely_wp rfl (opr_ldR (hT.row Rg2.out) rfl hF.1 (hK _ _ (NewT.refl _) rfl))
    · exact fun a wx hT hF K hK => rely_wp rfl (opr_cv (isOut_cv sv l g x _ wx ((NewT.trans _ _ _ HM.out hT).pairs HS.out) ((NewT.trans _ _ _ HM.out hT).recV HX.out) HOK.out) rfl Try.func52 (by kernel_rfl) (by kernel_rfl) (evs2 hF.1 hF.2.1) hK)
    · exact fun a wx hT hF K hK => rely_wp rfl (opr_move (.inr rfl) (hK _ _ (NewT.refl _) hF.1))
    · intro w4 k4
      iterate 4 (intro u h; obtain rfl := Eq.symm (h (by simp)); clear h)
      refine relyEnd_nil rfl ?_
      refine wpList_end rfl ?_
      simp only [Act.put, List.setIfInBounds_toArray, List.set_cons_zero, List.set_cons_succ]
      go_simp
      replace Rg1 := Lib.hid (k4.row Rg1.out)
      replace Rg2 := Lib.hid (k4.row Rg2.out)
      replace HM := Lib.hid (NewT.trans _ _ _ HM.out k4)
      clear k4
      go_wp2
      go_ret
      exact ⟨_, rfl, HM.out, by show _ = Value.bool _; rw [HE.out]; first | done | rfl⟩
  have k4 := hk
  clear hk
  have HE : Hid (fitsB l lim g x = false) := Lib.hid (by unfold fitsB; rw [if_neg (by omega), if_neg (by omega)])
  have q2 : (x.kind == 2) = false := by simpa using k2
  have q3 : (x.kind == 3) = false := by simpa using k3
  have q4 : (x.kind == 4) = false := by simpa using k4
  have q5 : (x.kind == 5) = false := by simpa using k5
  clear k2 k3 k4 k5
  go_wp2
  go_ret
  exact ⟨_, rfl, HM.out, by show _ = Value.bool _; rw [HE.out]; first | done | rfl⟩
set_option maxHeartbeats 4000000 in
theorem Go_cv (sv : Value) (l : List (Int × Int)) (g : Sg) (x : Rc) (v : Value) (lim : Int) (w : World) (hs : RdP w sv l) (hx : RecV w v x) (ok : OkG l g) : Cv 22 #[.agg (rowA 10 (sgF sv g)), v, .int .i64 lim] w (.eq (.tuple #[.agg (rowA 10 (sgF sv (wentG l lim g x))), .bool (goesB l lim g x)])) := by
  obtain ⟨su, dv, rfl, hsx, hdx⟩ := hx
  have HX : Hid (RecV w (.agg (rowA 109 (recF x su dv))) x) := Lib.hid ⟨su, dv, rfl, hsx, hdx⟩
  have HSX := Lib.hid hsx
  have HD := Lib.hid hdx
  clear hsx hdx
  unfold Cv
  have HS := Lib.hid hs
  have HOK := Lib.hid ok
  have HL6 : Hid (l.length ≤ 6) := Lib.hid ok.len.2
  have HTR := Lib.hid ok.tr
  clear hs ok
  go_enter Try.func22, Try.ntmps22
  go_upto_region 1 with fail
  have r_g1 := ((rowIs_box w 48 10 (sgF sv g)).alloc (.cells (rowA 109 (recF x su dv)) 46)).alloc (.cells (rowA 10 (sgF (.slice none 0 0) zG)) 48)
  have r_g2 := (rowIs_box (w.alloc (.cells (rowA 10 (sgF sv g)) 48)) 46 109 (recF x su dv)).alloc (.cells (rowA 10 (sgF (.slice none 0 0) zG)) 48)
  rw [World.size_alloc] at r_g2
  have r_g3 := rowIs_box ((w.alloc (.cells (rowA 10 (sgF sv g)) 48)).alloc (.cells (rowA 109 (recF x su dv)) 46)) 48 10 (sgF (.slice none 0 0) zG)
  rw [World.size_alloc, World.size_alloc] at r_g3
  have hN : NewT w (((w.alloc (.cells (rowA 10 (sgF sv g)) 48)).alloc (.cells (rowA 109 (recF x su dv)) 46)).alloc (.cells (rowA 10 (sgF (.slice none 0 0) zG)) 48)) := (NewT.trans _ _ _ ((NewT.trans _ _ _ (NewT.alloc _ _) (NewT.alloc _ _))) (NewT.alloc _ _))
  change Code.wp _ _ _ _ (((w.alloc (.cells (rowA 10 (sgF sv g)) 48)).alloc (.cells (rowA 109 (recF x su dv)) 46)).alloc (.cells (rowA 10 (sgF (.slice none 0 0) zG)) 48))
  generalize (((w.alloc (.cells (rowA 10 (sgF sv g)) 48)).alloc (.cells (rowA 109 (recF x su dv)) 46)).alloc (.cells (rowA 10 (sgF (.slice none 0 0) zG)) 48)) = W0 at r_g1 r_g2 r_g3 hN ⊢
  obtain ⟨g1, h_g1⟩ : ∃ g_, w.heap.size = g_ := ⟨_, rfl⟩
  obtain ⟨g2, h_g2⟩ : ∃ g_, w.heap.size + 1 = g_ := ⟨_, rfl⟩
  obtain ⟨g3, h_g3⟩ : ∃ g_, w.heap.size + 1 + 1 = g_ := ⟨_, rfl⟩
  have HG : Hid (w.heap.size ≤ g1 ∧ g1 < g2 ∧ g2 < g3) := Lib.hid (by omega)
  rw [h_g1] at r_g1
  rw [h_g2] at r_g2
  rw [h_g3] at r_g3
  try rw [h_g3]
  try rw [h_g2]
  simp only [h_g1]
  have Rg1 := Lib.hid r_g1
  have Rg2 := Lib.hid r_g2
  have Rg3 := Lib.hid r_g3
  have HM := Lib.hid hN
  clear r_g1 r_g2 r_g3 hN h_g1 h_g2 h_g3
  go_upto_region 1 with fail
  obtain ⟨q1_1, Q1_1⟩ : ∃ bq_, ((!(inR lim 1 9)) || (x.seq != g.sq)) = bq_ := ⟨_, rfl⟩
  refine wp_region_steps0 NewT [SV.eq (.int .i64 (lim)), SV.eq (.bool (inR lim 1 9)), SV.eq (.bool (!(inR lim 1 9))), SV.eq (.bool (!(inR lim 1 9))), svIf ((!(!(inR lim 1 9)))) (SV.eq (.pointer (some ⟨g2, 2, none⟩))), svIf ((!(!(inR lim 1 9)))) (SV.eq (.int .i64 (x.seq))), svIf ((!(!(inR lim 1 9)))) (SV.eq (.pointer (some ⟨g1, 9, none⟩))), svIf ((!(!(inR lim 1 9)))) (SV.eq (.int .i64 (g.sq))), svIf ((!(!(inR lim 1 9)))) (SV.eq (.bool (x.seq != g.sq))), SV.eq (.bool (q1_1)), SV.eq (.bool (q1_1)), svIf ((!q1_1)) (SV.eq (.agg (rowA 10 (sgF sv g)))), svIf ((!q1_1)) (SV.eq (.agg (rowA 109 (recF x su dv)))), svIf ((!q1_1)) (SV.eq (.int .i64 (lim))), svIf ((!q1_1)) (SV.eq (.bool (fitsB l lim g x))), svIf ((!q1_1)) (SV.eq (.bool (!(fitsB l lim g x)))), SV.eq (.bool (q1_1 || (!(fitsB l lim g x))))] [([(2, none)], none), ([(8, some 0)], none), ([(9, some 1)], none), ([(10, some 2)], none), ([(4, none), (11, some 3)], some (11, false)), ([(12, some 4), (11, some 3)], some (11, false)), ([(3, none), (11, some 3)], some (11, false)), ([(14, some 6), (11, some 3)], some (11, false)), ([(13, some 5), (15, some 7), (11, some 3)], some (11, false)), ([(11, some 3), (16, some 8)], none), ([(17, some 9)], none), ([(3, none), (18, some 10)], some (18, false)), ([(4, none), (18, some 10)], some (18, false)), ([(2, none), (18, some 10)], some (18, false)), ([(19, some 11), (20, some 12), (21, some 13), (18, some 10)], some (18, false)), ([(22, some 14), (18, some 10)], some (18, false)), ([(18, some 10), (23, some 15)], none)] 30 17 rfl rfl (by kernel_rfl) NewT.trans (NewT.refl _) (Nat.le_of_ble_eq_true rfl) ⟨?_, ?_, ?_, ?_, ?_, ?_, ?_, ?_, ?_, ?_, ?_, ?_, ?_, ?_, ?_, ?_, ?_, trivial⟩ ?_
  · exact fun a wx hT hF K hK => rely_wp rfl (opr_move (.inl rfl) (hK _ _ (NewT.refl _) hF.1))
  · exact fun a wx hT hF K hK => rely_wp rfl (opr_cv (gLimit_cv lim wx) rfl Try.func37 (by kernel_rfl) (by kernel_rfl) (evs1 hF.1) hK)
  · exact fun a wx hT hF K hK => rely_wp rfl (opr_not rfl hF.1 (hK _ _ (NewT.refl _) rfl))
  · exact fun a wx hT hF K hK => rely_wp rfl (opr_move (.inl rfl) (hK _ _ (NewT.refl _) hF.1))
  · exact fun a wx hT hF K hK => rely_if (rely_gf hF.2.1) (NewT.refl _) hK fun hE hK => opr_fldR (by decide) rfl hF.1 (hK _ _ (NewT.refl _) rfl)
  · exact fun a wx hT hF K hK => rely_if (rely_gf hF.2.1) (NewT.refl _) hK fun hE hK => opr_ldI (hT.row Rg2.out) (by decide) rfl rfl (hF.1 hE) (hK _ _ (NewT.refl _) rfl)
  · exact fun a wx hT hF K hK => rely_if (rely_gf hF.2.1) (NewT.refl _) hK fun hE hK => opr_fldU9 rfl hF.1 (hK _ _ (NewT.refl _) rfl)
  · exact fun a wx hT hF K hK => rely_if (rely_gf hF.2.1) (NewT.refl _) hK fun hE hK => opr_ldI (hT.row Rg1.out) (by decide) rfl rfl (hF.1 hE) (hK _ _ (NewT.refl _) rfl)
  · exact fun a wx hT hF K hK => rely_if (rely_gf hF.2.2.1) (NewT.refl _) hK fun hE hK => opr_cmp (b := x.seq != g.sq) (.inr (.inl ⟨rfl, rfl⟩)) Try.underlying3 rfl (hF.1 hE) (hF.2.1 hE) (hK _ _ (NewT.refl _) rfl)
  · exact fun a wx hT hF K hK => rely_wp rfl (opr_pick_b rfl hF.1 (fun hb => hK _ _ (NewT.refl _) (pn_or1 Q1_1 hb)) (fun hb => hK _ _ (NewT.refl _) (pn_or0 Q1_1 (hF.2.1 (bnot hb)) hb)))
  · exact fun a wx hT hF K hK => rely_wp rfl (opr_move (.inl rfl) (hK _ _ (NewT.refl _) hF.1))
  · exact fun a wx hT hF K hK => rely_if (rely_gf hF.2.1) (NewT.refl _) hK fun hE hK => opr_ldU (hT.row Rg1.out) rfl hF.1 (hK _ _ (NewT.refl _) rfl)
  · exact fun a wx hT hF K hK => rely_if (rely_gf hF.2.1) (NewT.refl _) hK fun hE hK => opr_ldR (hT.row Rg2.out) rfl hF.1 (hK _ _ (NewT.refl _) rfl)
  · exact fun a wx hT hF K hK => rely_if (rely_gf hF.2.1) (NewT.refl _) hK fun hE hK => opr_move (.inl rfl) (hK _ _ (NewT.refl _) hF.1)
  · exact fun a wx hT hF K hK => rely_if (rely_gf hF.2.2.2.1) (NewT.refl _) hK fun hE hK => opr_cv (fits_cv sv l g x _ lim wx ((NewT.trans _ _ _ HM.out hT).pairs HS.out) ((NewT.trans _ _ _ HM.out hT).recV HX.out) HOK.out) rfl Try.func38 (by kernel_rfl) (by kernel_rfl) (evs3 (hF.1 hE) (hF.2.1 hE) (hF.2.2.1 hE)) hK
  · exact fun a wx hT hF K hK => rely_if (rely_gf hF.2.1) (NewT.refl _) hK fun hE hK => opr_not rfl (hF.1 hE) (hK _ _ (NewT.refl _) rfl)
  · exact fun a wx hT hF K hK => rely_wp rfl (opr_pick_b rfl hF.1 (fun hb => hK _ _ (NewT.refl _) (pk_or1 hb)) (fun hb => hK _ _ (NewT.refl _) (pk_or0 (hF.2.1 (bnot hb)) hb)))
  · intro w1 k1
    iterate 4 (intro u h; obtain rfl := Eq.symm (h (by simp)); clear h)
    iterate 5 (intro _ _)
    iterate 2 (intro u h; obtain rfl := Eq.symm (h (by simp)); clear h)
    iterate 5 (intro _ _)
    intro u h; obtain rfl := Eq.symm (h (by simp)); clear h
    subst Q1_1
    refine relyEnd_nil rfl ?_
    refine wpList_end rfl ?_
    simp only [Act.put, List.setIfInBounds_toArray, List.set_cons_zero, List.set_cons_succ]
    go_simp
    replace Rg1 := Lib.hid (k1.row Rg1.out)
    replace Rg2 := Lib.hid (k1.row Rg2.out)
    replace Rg3 := Lib.hid (k1.row Rg3.out)
    replace HM := Lib.hid (NewT.trans _ _ _ HM.out k1)
    clear k1
    cases hb : (((!(inR lim 1 9)) || (x.seq != g.sq)) || (!(fitsB l lim g x)))
    · have HE : Hid (goesB l lim g x = true ∧ wentG l lim g x = behG l lim g x) := Lib.hid (by
        have hI : goesB l lim g x = true := by unfold goesB; rw [hb]; rfl
        exact ⟨hI, by unfold wentG; rw [hI, if_pos rfl]⟩)
      have hf : fitsB l lim g x = true := by
        rw [Bool.or_eq_false_iff] at hb
        simpa using hb.2
      have HST := Lib.hid (fits_pre HOK.out.len.1 hf).1
      have HKD := Lib.hid (fits_pre HOK.out.len.1 hf).2
      have HAT := Lib.hid HOK.out.at_
      have HSQ := Lib.hid HOK.out.sq
      clear hb hf
      go_upto_region 3 with fail
      refine wp_region_steps0 NewT [SV.eq (.agg (rowA 10 (sgF sv g))), SV.eq (.agg (rowA 109 (recF x su dv))), SV.eq (.int .i64 (lim)), SV.eq ((.agg (rowA 10 (sgF sv (behG l lim g x)))))] [([(3, none)], none), ([(4, none)], none), ([(2, none)], none), ([(26, some 0), (27, some 1), (28, some 2)], none)] 30 4 rfl rfl (by kernel_rfl) NewT.trans (NewT.refl _) (Nat.le_of_ble_eq_true rfl) ⟨?_, ?_, ?_, ?_, trivial⟩ ?_
      · exact fun a wx hT hF K hK => rely_wp rfl (opr_ldU (hT.row Rg1.out) rfl hF.1 (hK _ _ (NewT.refl _) rfl))
      · exact fun a wx hT hF K hK => rely_wp rfl (opr_ldR (hT.row Rg2.out) rfl hF.1 (hK _ _ (NewT.refl _) rfl))
      · exact fun a wx hT hF K hK => rely_wp rfl (opr_move (.inl rfl) (hK _ _ (NewT.refl _) hF.1))
      · exact fun a wx hT hF K hK => rely_wp rfl (opr_cv (behind_cv sv l g x _ lim wx ((NewT.trans _ _ _ HM.out hT).pairs HS.out) ((NewT.trans _ _ _ HM.out hT).recV HX.out) HL6.out HST.out HKD.out HAT.out HSQ.out) rfl Try.func39 (by kernel_rfl) (by kernel_rfl) (evs3 hF.1 hF.2.1 hF.2.2.1) hK)
      · intro w2 k2
        iterate 4 (intro u h; obtain rfl := Eq.symm (h (by simp)); clear h)
        refine relyEnd_nil rfl ?_
        simp only [Act.put, List.setIfInBounds_toArray, List.set_cons_zero, List.set_cons_succ]
        refine wpList_plain rfl (fun K hK => ?_)
        refine opr_putm (g := g3) (o0 := 0) (m := 10) (f := sgF sv (behG l lim g x)) (F := sgF sv (behG l lim g x)) rfl rfl rfl (k2.row Rg3.out) (by decide) info_saga (sgF_one _ _ (oneP HS.out)) (put_allN _ _ _) ?_
        intro W2 hR2 rr2
        refine hK _ _ ?_
        clear hK K
        simp only [Act.put, List.setIfInBounds_toArray, List.set_cons_zero, List.set_cons_succ]
        refine wpList_plain rfl (fun K hK => ?_)
        refine opr_move (.inr rfl) (hK _ _ ?_)
        clear hK K
        refine wpList_end rfl ?_
        simp only [Act.put, List.setIfInBounds_toArray, List.set_cons_zero, List.set_cons_succ]
        go_simp
        replace Rg3 := Lib.hid rr2
        replace Rg1 := Lib.hid (hR2.row (by have h_0 := HG.out; omega) (k2.row Rg1.out))
        replace Rg2 := Lib.hid (hR2.row (by have h_0 := HG.out; omega) (k2.row Rg2.out))
        replace HM := Lib.hid (NewT.rt (NewT.trans _ _ _ HM.out k2) hR2 (by have h_0 := HG.out; omega))
        clear k2 hR2 rr2
        go_wp2
        exact bodyPost_ret (results_rt rfl rfl rfl Rg3.out Try.underlying48 rfl info_saga) rfl ⟨_, rfl, HM.out, by show _ = Value.tuple _; rw [HE.out.1, HE.out.2]; first | done | rfl⟩
    · have HE : Hid (goesB l lim g x = false ∧ wentG l lim g x = g) := Lib.hid (by
        have hI : goesB l lim g x = false := by unfold goesB; rw [hb]; rfl
        exact ⟨hI, by unfold wentG; rw [hI, if_neg (by simp)]⟩)
      clear hb
      go_upto_region 2 with fail
      refine wp_region_steps0 NewT [SV.eq (.agg (rowA 10 (sgF sv g)))] [([(3, none)], none)] 30 1 rfl rfl (by kernel_rfl) NewT.trans (NewT.refl _) (Nat.le_of_ble_eq_true rfl) ⟨?_, trivial⟩ ?_
      · exact fun a wx hT hF K hK => rely_wp rfl (opr_ldU (hT.row Rg1.out) rfl hF.1 (hK _ _ (NewT.refl _) rfl))
      · intro w3 k3
        intro u h; obtain rfl := Eq.symm (h (by simp)); clear h
        refine relyEnd_nil rfl ?_
        simp only [Act.put, List.setIfInBounds_toArray, List.set_cons_zero, List.set_cons_succ]
        refine wpList_plain rfl (fun K hK => ?_)
        refine opr_putm (g := g3) (o0 := 0) (m := 10) (f := sgF sv g) (F := sgF sv g) rfl rfl rfl (k3.row Rg3.out) (by decide) info_saga (sgF_one _ _ (oneP HS.out)) (put_allN _ _ _) ?_
        intro W3 hR3 rr3
        refine hK _ _ ?_
        clear hK K
        simp only [Act.put, List.setIfInBounds_toArray, List.set_cons_zero, List.set_cons_succ]
        refine wpList_plain rfl (fun K hK => ?_)
        refine opr_move (.inr rfl) (hK _ _ ?_)
        clear hK K
        refine wpList_end rfl ?_
        simp only [Act.put, List.setIfInBounds_toArray, List.set_cons_zero, List.set_cons_succ]
        go_simp
        replace Rg3 := Lib.hid rr3
        replace Rg1 := Lib.hid (hR3.row (by have h_0 := HG.out; omega) (k3.row Rg1.out))
        replace Rg2 := Lib.hid (hR3.row (by have h_0 := HG.out; omega) (k3.row Rg2.out))
        replace HM := Lib.hid (NewT.rt (NewT.trans _ _ _ HM.out k3) hR3 (by have h_0 := HG.out; omega))
        clear k3 hR3 rr3
        go_wp2
        exact bodyPost_ret (results_rt rfl rfl rfl Rg3.out Try.underlying48 rfl info_saga) rfl ⟨_, rfl, HM.out, by show _ = Value.tuple _; rw [HE.out.1, HE.out.2]; first | done | rfl⟩
end Go.Proofs.Ytilmeffmdgcblaa
/- Package rec: ranges; steps; slices compared. -/
namespace Go.Proofs.Ytilmeffmdgcblaa
open Go Go.RowKit
set_option maxRecDepth 8000
set_option linter.all false
set_option maxHeartbeats 400000 in
theorem within_cv (n lo hi : Int) (w : World) : Cv 70 #[.int .i64 n, .int .i64 lo, .int .i64 hi] w (.eq (.bool (inR n lo hi))) := by
  unfold Cv
  go_enter Try.func70, Try.ntmps70
  go_upto_region 1 with fail
  obtain ⟨q1_1, Q1_1⟩ : ∃ bq_, ((decide (lo ≤ n)) && (decide (n ≤ hi))) = bq_ := ⟨_, rfl⟩
  refine wp_region_steps0 NewT [SV.eq (.int .i64 (lo)), SV.eq (.int .i64 (n)), SV.eq (.bool (decide (lo ≤ n))), SV.eq (.bool (decide (lo ≤ n))), svIf (decide (lo ≤ n)) (SV.eq (.int .i64 (n))), svIf (decide (lo ≤ n)) (SV.eq (.int .i64 (hi))), svIf (decide (lo ≤ n)) (SV.eq (.bool (decide (n ≤ hi)))), SV.eq (.bool (q1_1)), SV.eq (.bool (q1_1))] [([(1, none)], none), ([(0, none)], none), ([(7, some 0), (8, some 1)], none), ([(9, some 2)], none), ([(0, none), (10, some 3)], some (10, true)), ([(2, none), (10, some 3)], some (10, true)), ([(11, some 4), (12, some 5), (10, some 3)], some (10, true)), ([(10, some 3), (13, some 6)], none), ([(14, some 7)], none)] 15 9 rfl rfl (by kernel_rfl) NewT.trans (NewT.refl _) (Nat.le_of_ble_eq_true rfl) ⟨?_, ?_, ?_, ?_, ?_, ?_, ?_, ?_, ?_, trivial⟩ ?_
  · exact fun a wx hT hF K hK => rely_wp rfl (opr_move (.inl rfl) (hK _ _ (NewT.refl _) hF.1))
  · exact fun a wx hT hF K hK => rely_wp rfl (opr_move (.inl rfl) (hK _ _ (NewT.refl _) hF.1))
  · exact fun a wx hT hF K hK => rely_wp rfl (opr_cmp (b := decide (lo ≤ n)) (.inr (.inr (.inl ⟨rfl, rfl⟩))) Try.underlying3 rfl hF.1 hF.2.1 (hK _ _ (NewT.refl _) rfl))
  · exact fun a wx hT hF K hK => rely_wp rfl (opr_move (.inl rfl) (hK _ _ (NewT.refl _) hF.1))
  · exact fun a wx hT hF K hK => rely_if (rely_gt hF.2.1) (NewT.refl _) hK fun hE hK => opr_move (.inl rfl) (hK _ _ (NewT.refl _) hF.1)
  · exact fun a wx hT hF K hK => rely_if (rely_gt hF.2.1) (NewT.refl _) hK fun hE hK => opr_move (.inl rfl) (hK _ _ (NewT.refl _) hF.1)
  · exact fun a wx hT hF K hK => rely_if (rely_gt hF.2.2.1) (NewT.refl _) hK fun hE hK => opr_cmp (b := decide (n ≤ hi)) (.inr (.inr (.inl ⟨rfl, rfl⟩))) Try.underlying3 rfl (hF.1 hE) (hF.2.1 hE) (hK _ _ (NewT.refl _) rfl)
  · exact fun a wx hT hF K hK => rely_wp rfl (opr_pick_b rfl hF.1 (fun hb => hK _ _ (NewT.refl _) (pn_and1 Q1_1 (hF.2.1 hb) hb)) (fun hb => hK _ _ (NewT.refl _) (pn_and0 Q1_1 hb)))
  · exact fun a wx hT hF K hK => rely_wp rfl (opr_move (.inr rfl) (hK _ _ (NewT.refl _) hF.1))
  · intro wx hT
    iterate 4 (intro u h; obtain rfl := Eq.symm (h (by simp)); clear h)
    iterate 3 (intro _ _)
    iterate 2 (intro u h; obtain rfl := Eq.symm (h (by simp)); clear h)
    subst Q1_1
    refine relyEnd_nil rfl ?_
    refine wpList_end rfl ?_
    simp only [Act.put, List.setIfInBounds_toArray, List.set_cons_zero, List.set_cons_succ]
    go_simp
    go_wp2
    go_ret
    exact ⟨_, rfl, hT, rfl⟩
set_option maxHeartbeats 400000 in
theorem isSaga_cv (n : Int) (w : World) : Cv 67 #[.int .i64 n] w (.eq (.bool (inR n 0 11))) := by
  unfold Cv
  go_enter Try.func67, Try.ntmps67
  go_upto_region 1 with fail
  refine wp_region_steps0 NewT [SV.eq (.int .i64 (n)), SV.eq (.bool (inR n 0 11)), SV.eq (.bool (inR n 0 11))] [([(0, none)], none), ([(3, some 0)], none), ([(4, some 1)], none)] 5 3 rfl rfl (by kernel_rfl) NewT.trans (NewT.refl _) (Nat.le_of_ble_eq_true rfl) ⟨?_, ?_, ?_, trivial⟩ ?_
  · exact fun a wx hT hF K hK => rely_wp rfl (opr_move (.inl rfl) (hK _ _ (NewT.refl _) hF.1))
  · exact fun a wx hT hF K hK => rely_wp rfl (opr_cv (within_cv n 0 11 wx) rfl Try.func70 (by kernel_rfl) (by kernel_rfl) (evs3 hF.1 rfl rfl) hK)
  · exact fun a wx hT hF K hK => rely_wp rfl (opr_move (.inr rfl) (hK _ _ (NewT.refl _) hF.1))
  · intro wx hT
    iterate 3 (intro u h; obtain rfl := Eq.symm (h (by simp)); clear h)
    refine relyEnd_nil rfl ?_
    refine wpList_end rfl ?_
    simp only [Act.put, List.setIfInBounds_toArray, List.set_cons_zero, List.set_cons_succ]
    go_simp
    go_wp2
    go_ret
    exact ⟨_, rfl, hT, rfl⟩
set_option maxHeartbeats 400000 in
theorem isSeq_cv (n : Int) (w : World) : Cv 71 #[.int .i64 n] w (.eq (.bool (inR n 1 400))) := by
  unfold Cv
  go_enter Try.func71, Try.ntmps71
  go_upto_region 1 with fail
  refine wp_region_steps0 NewT [SV.eq (.int .i64 (n)), SV.eq (.bool (inR n 1 400)), SV.eq (.bool (inR n 1 400))] [([(0, none)], none), ([(3, some 0)], none), ([(4, some 1)], none)] 5 3 rfl rfl (by kernel_rfl) NewT.trans (NewT.refl _) (Nat.le_of_ble_eq_true rfl) ⟨?_, ?_, ?_, trivial⟩ ?_
  · exact fun a wx hT hF K hK => rely_wp rfl (opr_move (.inl rfl) (hK _ _ (NewT.refl _) hF.1))
  · exact fun a wx hT hF K hK => rely_wp rfl (opr_cv (within_cv n 1 400 wx) rfl Try.func70 (by kernel_rfl) (by kernel_rfl) (evs3 hF.1 rfl rfl) hK)
  · exact fun a wx hT hF K hK => rely_wp rfl (opr_move (.inr rfl) (hK _ _ (NewT.refl _) hF.1))
  · intro wx hT
    iterate 3 (intro u h; obtain rfl := Eq.symm (h (by simp)); clear h)
    refine relyEnd_nil rfl ?_
    refine wpList_end rfl ?_
    simp only [Act.put, List.setIfInBounds_toArray, List.set_cons_zero, List.set_cons_succ]
    go_simp
    go_wp2
    go_ret
    exact ⟨_, rfl, hT, rfl⟩
set_option maxHeartbeats 400000 in
theorem isPart_cv (n : Int) (w : World) : Cv 69 #[.int .i64 n] w (.eq (.bool (inR n 0 3))) := by
  unfold Cv
  go_enter Try.func69, Try.ntmps69
  go_upto_region 1 with fail
  refine wp_region_steps0 NewT [SV.eq (.int .i64 (n)), SV.eq (.bool (inR n 0 3)), SV.eq (.bool (inR n 0 3))] [([(0, none)], none), ([(3, some 0)], none), ([(4, some 1)], none)] 5 3 rfl rfl (by kernel_rfl) NewT.trans (NewT.refl _) (Nat.le_of_ble_eq_true rfl) ⟨?_, ?_, ?_, trivial⟩ ?_
  · exact fun a wx hT hF K hK => rely_wp rfl (opr_move (.inl rfl) (hK _ _ (NewT.refl _) hF.1))
  · exact fun a wx hT hF K hK => rely_wp rfl (opr_cv (within_cv n 0 3 wx) rfl Try.func70 (by kernel_rfl) (by kernel_rfl) (evs3 hF.1 rfl rfl) hK)
  · exact fun a wx hT hF K hK => rely_wp rfl (opr_move (.inr rfl) (hK _ _ (NewT.refl _) hF.1))
  · intro wx hT
    iterate 3 (intro u h; obtain rfl := Eq.symm (h (by simp)); clear h)
    refine relyEnd_nil rfl ?_
    refine wpList_end rfl ?_
    simp only [Act.put, List.setIfInBounds_toArray, List.set_cons_zero, List.set_cons_succ]
    go_simp
    go_wp2
    go_ret
    exact ⟨_, rfl, hT, rfl⟩
set_option maxHeartbeats 400000 in
theorem isStep_cv (s : Int × Int) (w : World) : Cv 77 #[.agg (rowA 2 (stepF s))] w (.eq (.bool (stepOk s))) := by
  unfold Cv
  go_enter Try.func77, Try.ntmps77
  go_upto_region 1 with fail
  have r1 := rowIs_box w 58 2 (stepF s)
  have hN := NewT.alloc w (.cells (rowA 2 (stepF s)) 58)
  change Code.wp _ _ _ _ (w.alloc (.cells (rowA 2 (stepF s)) 58))
  generalize w.alloc (.cells (rowA 2 (stepF s)) 58) = W0 at r1 hN ⊢
  have R1 := Lib.hid r1
  have HN := Lib.hid hN
  clear r1 hN
  refine wp_region_steps0 NewT [SV.eq (.pointer (some ⟨w.heap.size, 0 + 0, none⟩)), SV.eq (.int .i64 (s.1)), SV.eq (.bool (inR s.1 0 3)), SV.eq (.bool (inR s.1 0 3)), svIf (inR s.1 0 3) (SV.eq (.pointer (some ⟨w.heap.size, 0 + 1, none⟩))), svIf (inR s.1 0 3) (SV.eq (.int .i64 (s.2))), svIf (inR s.1 0 3) (SV.eq (.bool (inR s.2 1 3))), SV.eq (.bool ((inR s.1 0 3) && (inR s.2 1 3))), SV.eq (.bool ((inR s.1 0 3) && (inR s.2 1 3)))] [([(1, none)], none), ([(3, some 0)], none), ([(4, some 1)], none), ([(5, some 2)], none), ([(1, none), (6, some 3)], some (6, true)), ([(7, some 4), (6, some 3)], some (6, true)), ([(8, some 5), (6, some 3)], some (6, true)), ([(6, some 3), (9, some 6)], none), ([(10, some 7)], none)] 11 9 rfl rfl (by kernel_rfl) NewT.trans (NewT.refl _) (Nat.le_of_ble_eq_true rfl) ⟨?_, ?_, ?_, ?_, ?_, ?_, ?_, ?_, ?_, trivial⟩ ?_
  · exact fun a wx hT hF K hK => rely_wp rfl (opr_fldS (by decide) rfl hF.1 (hK _ _ (NewT.refl _) rfl))
  · exact fun a wx hT hF K hK => rely_wp rfl (opr_ldI (hT.row R1.out) (by decide) rfl rfl hF.1 (hK _ _ (NewT.refl _) rfl))
  · exact fun a wx hT hF K hK => rely_wp rfl (opr_cv (isPart_cv s.1 wx) rfl Try.func69 (by kernel_rfl) (by kernel_rfl) (evs1 hF.1) hK)
  · exact fun a wx hT hF K hK => rely_wp rfl (opr_move (.inl rfl) (hK _ _ (NewT.refl _) hF.1))
  · exact fun a wx hT hF K hK => rely_if (rely_gt hF.2.1) (NewT.refl _) hK fun hE hK => opr_fldS (by decide) rfl hF.1 (hK _ _ (NewT.refl _) rfl)
  · exact fun a wx hT hF K hK => rely_if (rely_gt hF.2.1) (NewT.refl _) hK fun hE hK => opr_ldI (hT.row R1.out) (by decide) rfl rfl (hF.1 hE) (hK _ _ (NewT.refl _) rfl)
  · exact fun a wx hT hF K hK => rely_if (rely_gt hF.2.1) (NewT.refl _) hK fun hE hK => opr_cv (within_cv s.2 1 3 wx) rfl Try.func70 (by kernel_rfl) (by kernel_rfl) (evs3 (hF.1 hE) rfl rfl) hK
  · exact fun a wx hT hF K hK => rely_wp rfl (opr_pick_b rfl hF.1 (fun hb => hK _ _ (NewT.refl _) (pk_and1 (hF.2.1 hb) hb)) (fun hb => hK _ _ (NewT.refl _) (pk_and0 hb)))
  · exact fun a wx hT hF K hK => rely_wp rfl (opr_move (.inr rfl) (hK _ _ (NewT.refl _) hF.1))
  · intro wx hT
    iterate 4 (intro u h; obtain rfl := Eq.symm (h (by simp)); clear h)
    iterate 3 (intro _ _)
    iterate 2 (intro u h; obtain rfl := Eq.symm (h (by simp)); clear h)
    refine relyEnd_nil rfl ?_
    refine wpList_end rfl ?_
    simp only [Act.put, List.setIfInBounds_toArray, List.set_cons_zero, List.set_cons_succ]
    go_simp
    go_wp2
    go_ret
    exact ⟨_, rfl, NewT.trans _ _ _ HN.out hT, rfl⟩
theorem all_next (l : List (Int × Int)) (k : Nat) (hk : k < l.length) : (l.take (k + 1)).all stepOk = ((l.take k).all stepOk && stepOk (l.getD k (0, 0))) := by
  have e : l.take (k + 1) = l.take k ++ [l[k]] := by rw [List.take_add_one, List.getElem?_eq_getElem hk]; rfl
  rw [e, List.all_append]
  simp [List.getD, hk]
theorem all_not (l : List (Int × Int)) (k : Nat) (hk : k < l.length) (h : stepOk (l.getD k (0, 0)) = false) : l.all stepOk = false := by
  rw [List.all_eq_false]
  refine ⟨l.getD k (0, 0), ?_, by rw [h]; simp⟩
  simp [List.getD, hk]
set_option maxHeartbeats 1000000 in
theorem areSteps_cv (v : Value) (l : List (Int × Int)) (w : World) (h : RdP w v l) : Cv 68 #[v] w (.eq (.bool (stepsOk l))) := by
  unfold Cv
  obtain ⟨A0, cap, rfl, h1, h2, h3⟩ := h
  have H3 := Lib.hid h3
  unfold maxLen at h2
  unfold stepsOk
  clear h3
  generalize hn : l.length = n at *
  have Hn := Lib.hid hn
  clear hn
  cases hin : inR (n : Int) 1 6
  · go_enter Try.func68, Try.ntmps68
    go_wp2_with (go_at_call 70; refine (within_cv n 1 6 w).eq.mono ?_; rintro _ w' ⟨rfl, hB⟩; rw [hin])
    go_ret
    exact ⟨_, rfl, hB, by rw [Bool.false_and]; rfl⟩
  rw [Bool.true_and]
  have hr := (inR_iff _ _ _).1 hin
  go_enter Try.func68, Try.ntmps68
  go_wp2_with (go_at_call 70; refine (within_cv n 1 6 w).eq.mono ?_; rintro _ w' ⟨rfl, hB⟩; rw [hin])
  go_loopw [11] (fun i wr => ∃ k : Nat, k ≤ n ∧ i = .int .i64 k ∧ Hid ((l.take k).all stepOk = true) ∧ Below w.heap.size w wr) (fun i _ => n - (intOf i).toNat)
  case atStart => exact ⟨0, by omega, rfl, Lib.hid (by simp), hB⟩
  case round =>
    clear hB hin
    obtain ⟨k, hk, rfl, Hs, qB⟩ := hrel
    by_cases hlt : k < n
    · obtain ⟨b, o, rfl, hcell⟩ := H3.out (by omega)
      obtain ⟨j0, j1⟩ := hcell k hlt
      have k0 := (qB.cell (p := ⟨b, o + 2 * k, none⟩) (World.block_lt_of_cell? _ _ j0)).trans j0
      have k1 := (qB.cell (p := ⟨b, o + 2 * k + 1, none⟩) (World.block_lt_of_cell? _ _ j1)).trans j1
      have Hal := Lib.hid (all_next l k (by rw [Hn.out]; exact hlt))
      have Hno := Lib.hid (all_not l k (by rw [Hn.out]; exact hlt))
      clear hcell j0 j1
      generalize l.getD k (0, 0) = s at k0 k1 Hal Hno
      have it : (k : Int) < (n : Int) := by omega
      cases hq : stepOk s
      · have Hq := Lib.hid hq
        clear hq
        go_upto_region 5 with fail
        refine wp_region_steps0 NewT [SV.eq (.pointer (some ⟨b, o + 2 * k, none⟩)), SV.eq (.agg (rowA 2 (stepF s)))] [([(9, none), (11, none)], none), ([(13, some 0)], none)] 19 2 rfl rfl (by kernel_rfl) NewT.trans (NewT.refl _) (Nat.le_of_ble_eq_true rfl) ⟨?_, ?_, trivial⟩ ?_
        · exact fun a wx hT hF K hK => rely_wp rfl (opr_idxS hlt rfl hF.1 hF.2.1 (hK _ _ (NewT.refl _) rfl))
        · exact fun a wx hT hF K hK => rely_wp rfl (opr_ld2 ((hT.out.cell (World.block_lt_of_cell? _ _ k0)).trans k0) ((hT.out.cell (World.block_lt_of_cell? _ _ k1)).trans k1) rfl hF.1 (hK _ _ (NewT.refl _) rfl))
        · intro w5 h5
          iterate 2 (intro u h; obtain rfl := Eq.symm (h (by simp)); clear h)
          refine relyEnd_nil rfl ?_
          simp only [Act.put, List.setIfInBounds_toArray, List.set_cons_zero, List.set_cons_succ]
          refine wpList_new (n := 2) rfl rfl rfl rfl rfl rfl (by simp) run_alloc_step info_step (stepF_one s) rfl ?_
          intro wn hNn rn
          refine wpList_end rfl ?_
          simp only [Act.put, List.setIfInBounds_toArray, List.set_cons_zero, List.set_cons_succ]
          go_simp
          clear k0 k1
          go_upto_region 6 with fail
          refine wp_region_steps0 NewT [SV.eq (.agg (rowA 2 (stepF s))), SV.eq (.bool false), SV.eq (.bool true)] [([(4, none)], none), ([(15, some 0)], none), ([(16, some 1)], none)] 19 3 rfl rfl (by kernel_rfl) NewT.trans (NewT.refl _) (Nat.le_of_ble_eq_true rfl) ⟨?_, ?_, ?_, trivial⟩ ?_
          · exact fun a wx hT hF K hK => rely_wp rfl (opr_ldSt (hT.row rn) rfl hF.1 (hK _ _ (NewT.refl _) rfl))
          · exact fun a wx hT hF K hK => rely_wp rfl (opr_cv (Hq.out ▸ isStep_cv s wx) rfl Try.func77 (by kernel_rfl) (by kernel_rfl) (evs1 hF.1) hK)
          · exact fun a wx hT hF K hK => rely_wp rfl (opr_not rfl hF.1 (hK _ _ (NewT.refl _) rfl))
          · intro wy hT2
            iterate 3 (intro u h; obtain rfl := Eq.symm (h (by simp)); clear h)
            refine relyEnd_nil rfl ?_
            refine wpList_end rfl ?_
            simp only [Act.put, List.setIfInBounds_toArray, List.set_cons_zero, List.set_cons_succ]
            go_simp
            have hB2 : Below w.heap.size w wy := qB.trans ((h5.out.mono qB.size).trans ((hNn.out.mono (Nat.le_trans qB.size h5.out.size)).trans (hT2.out.mono (Nat.le_trans qB.size (Nat.le_trans h5.out.size hNn.out.size)))))
            go_wp2
            go_ret
            exact ⟨_, rfl, hB2, by rw [Hno.out Hq.out]; rfl⟩
      · have Hq := Lib.hid hq
        clear hq
        go_upto_region 5 with fail
        refine wp_region_steps0 NewT [SV.eq (.pointer (some ⟨b, o + 2 * k, none⟩)), SV.eq (.agg (rowA 2 (stepF s)))] [([(9, none), (11, none)], none), ([(13, some 0)], none)] 19 2 rfl rfl (by kernel_rfl) NewT.trans (NewT.refl _) (Nat.le_of_ble_eq_true rfl) ⟨?_, ?_, trivial⟩ ?_
        · exact fun a wx hT hF K hK => rely_wp rfl (opr_idxS hlt rfl hF.1 hF.2.1 (hK _ _ (NewT.refl _) rfl))
        · exact fun a wx hT hF K hK => rely_wp rfl (opr_ld2 ((hT.out.cell (World.block_lt_of_cell? _ _ k0)).trans k0) ((hT.out.cell (World.block_lt_of_cell? _ _ k1)).trans k1) rfl hF.1 (hK _ _ (NewT.refl _) rfl))
        · intro w5 h5
          iterate 2 (intro u h; obtain rfl := Eq.symm (h (by simp)); clear h)
          refine relyEnd_nil rfl ?_
          simp only [Act.put, List.setIfInBounds_toArray, List.set_cons_zero, List.set_cons_succ]
          refine wpList_new (n := 2) rfl rfl rfl rfl rfl rfl (by simp) run_alloc_step info_step (stepF_one s) rfl ?_
          intro wn hNn rn
          refine wpList_end rfl ?_
          simp only [Act.put, List.setIfInBounds_toArray, List.set_cons_zero, List.set_cons_succ]
          go_simp
          clear k0 k1
          go_upto_region 6 with fail
          refine wp_region_steps0 NewT [SV.eq (.agg (rowA 2 (stepF s))), SV.eq (.bool true), SV.eq (.bool false)] [([(4, none)], none), ([(15, some 0)], none), ([(16, some 1)], none)] 19 3 rfl rfl (by kernel_rfl) NewT.trans (NewT.refl _) (Nat.le_of_ble_eq_true rfl) ⟨?_, ?_, ?_, trivial⟩ ?_
          · exact fun a wx hT hF K hK => rely_wp rfl (opr_ldSt (hT.row rn) rfl hF.1 (hK _ _ (NewT.refl _) rfl))
          · exact fun a wx hT hF K hK => rely_wp rfl (opr_cv (Hq.out ▸ isStep_cv s wx) rfl Try.func77 (by kernel_rfl) (by kernel_rfl) (evs1 hF.1) hK)
          · exact fun a wx hT hF K hK => rely_wp rfl (opr_not rfl hF.1 (hK _ _ (NewT.refl _) rfl))
          · intro wy hT2
            iterate 3 (intro u h; obtain rfl := Eq.symm (h (by simp)); clear h)
            refine relyEnd_nil rfl ?_
            refine wpList_end rfl ?_
            simp only [Act.put, List.setIfInBounds_toArray, List.set_cons_zero, List.set_cons_succ]
            go_simp
            have hB2 : Below w.heap.size w wy := qB.trans ((h5.out.mono qB.size).trans ((hNn.out.mono (Nat.le_trans qB.size h5.out.size)).trans (hT2.out.mono (Nat.le_trans qB.size (Nat.le_trans h5.out.size hNn.out.size)))))
            go_wp2
            go_roundw
            case rel => exact ⟨k + 1, by omega, by go_num, Lib.hid (by rw [Hal.out, Hs.out, Hq.out]; rfl), hB2⟩
            case measure => simp [intOf]; omega
    · obtain rfl : k = n := by omega
      go_wp2
      go_ret
      exact ⟨_, rfl, qB, by have := Hs.out; rw [← Hn.out, List.take_length] at this; rw [this]; rfl⟩
end Go.Proofs.Ytilmeffmdgcblaa
/- The reference's Bytes, at whatever lists. -/
namespace Go.Proofs.Ytilmeffmdgcblaa
open Go Go.RowKit
set_option maxRecDepth 8000
set_option linter.all false
theorem rd_cells {W : World} {A : Option Addr} {n c : Nat} {l : List UInt8} (h : RdV W [] (.slice A n c) l) : l.length = n ∧ ∀ i, i < n → ∃ b o, A = some ⟨b, o, none⟩ ∧ ∀ j, j < n → W.cell? ⟨b, o + j, none⟩ = some (.int .u8 (bN (bAt l j))) := by
  obtain ⟨A', c', hv, _, _, hc⟩ := h
  cases hv
  refine ⟨rfl, fun i hi => ?_⟩
  obtain ⟨b, o, h1, _, h2⟩ := hc (by omega)
  exact ⟨b, o, h1, h2⟩
/-- The same up to a place. -/
def sameTo (l m : List UInt8) (k : Nat) : Prop := ∀ i, i < k → bAt l i = bAt m i
theorem eq_of_sameTo {l m : List UInt8} (hl : l.length = m.length) (h : sameTo l m l.length) : l = m := by
  apply List.ext_getElem hl
  intro i h1 h2
  have := h i h1
  simpa [bAt, h1, h2] using this
set_option maxHeartbeats 1000000 in
theorem Bytes_any (A1 A2 : Option Addr) (n1 c1 n2 c2 : Nat) (l m : List UInt8) (w : World) (h1 : RdV w [] (.slice A1 n1 c1) l) (h2 : RdV w [] (.slice A2 n2 c2) m) (hn1 : n1 ≤ 1000000) (hn2 : n2 ≤ 1000000) :
    Cv 48 #[.slice A1 n1 c1, .slice A2 n2 c2] w (.eq (.bool (decide (l = m)))) := by
  unfold Cv
  obtain ⟨e1, k1⟩ := rd_cells h1
  obtain ⟨e2, k2⟩ := rd_cells h2
  have E1 := Lib.hid e1
  have E2 := Lib.hid e2
  have H1 := Lib.hid k1
  have H2 := Lib.hid k2
  clear h1 h2 e1 e2 k1 k2
  by_cases hne : n1 = n2
  · subst hne
    go_enter Try.func48, Try.ntmps48
    go_wp2
    go_loopw [5] (fun i wr => ∃ k : Nat, k ≤ n1 ∧ i = .int .i64 k ∧ Hid (sameTo l m k) ∧ Hid (∀ a, wr.cell? a = w.cell? a) ∧ Below w.heap.size w wr) (fun i _ => n1 - (intOf i).toNat)
    case atStart => exact ⟨0, by omega, rfl, Lib.hid (fun i hi => by omega), Lib.hid (fun _ => rfl), Below.refl _ _⟩
    case round =>
      obtain ⟨k, hk, rfl, Hs, Hcell, qB⟩ := hrel
      by_cases hlt : k < n1
      · obtain ⟨b1, o1, rfl, j1⟩ := H1.out k hlt
        obtain ⟨b2, o2, rfl, j2⟩ := H2.out k hlt
        have c1' := (Hcell.out ⟨b1, o1 + k, none⟩).trans (j1 k hlt)
        have c2' := (Hcell.out ⟨b2, o2 + k, none⟩).trans (j2 k hlt)
        have it : (k : Int) < (n1 : Int) := by omega
        clear j1 j2
        by_cases hb : bAt l k = bAt m k
        · have hq : (bN (bAt l k) != bN (bAt m k)) = false := by rw [hb]; simp
          have Hb := Lib.hid hb
          clear hb
          generalize hx : bN (bAt l k) = x at c1' hq
          generalize hy : bN (bAt m k) = y at c2' hq
          clear hx hy
          go_wp2
          refine wp_region_still_lit (by kernel_rfl) (by kernel_rfl) ?_
          repeat (refine wpStill_step (fun K hK => ?_); go_simp; (try go_bits); refine hK _ ?_; clear hK K)
          refine wpStill_nil ?_
          go_wp2
          go_roundw
          case rel => exact ⟨k + 1, by omega, by go_num, Lib.hid (fun i hi => by
            rcases Nat.lt_succ_iff_lt_or_eq.1 hi with h | rfl
            · exact Hs.out i h
            · exact Hb.out), Lib.hid (fun a => Hcell.out a), qB.drew⟩
          case measure => simp [intOf]; omega
        · have hq : (bN (bAt l k) != bN (bAt m k)) = true := by simpa using fun h => hb (bN_inj h)
          have Hb := Lib.hid hb
          clear hb
          generalize hx : bN (bAt l k) = x at c1' hq
          generalize hy : bN (bAt m k) = y at c2' hq
          clear hx hy
          go_wp2
          refine wp_region_still_lit (by kernel_rfl) (by kernel_rfl) ?_
          repeat (refine wpStill_step (fun K hK => ?_); go_simp; (try go_bits); refine hK _ ?_; clear hK K)
          refine wpStill_nil ?_
          go_wp2
          go_ret
          refine ⟨_, rfl, qB.drew, ?_⟩
          show Value.bool false = _
          congr 1
          exact (decide_eq_false fun h => Hb.out (by rw [h])).symm
      · obtain rfl : k = n1 := by omega
        go_wp2
        go_ret
        refine ⟨_, rfl, qB, ?_⟩
        show Value.bool true = _
        congr 1
        exact (decide_eq_true (eq_of_sameTo (E1.out.trans E2.out.symm) (by rw [E1.out]; exact Hs.out))).symm
  · have hq : ((n1 : Int) != (n2 : Int)) = true := by simp; omega
    have hq2 : (n1 != n2) = true := by simpa using hne
    go_enter Try.func48, Try.ntmps48
    go_wp2
    go_ret
    refine ⟨_, rfl, Below.refl _ _, ?_⟩
    show Value.bool false = _
    congr 1
    exact (decide_eq_false fun h => hne (by rw [← E1.out, ← E2.out, h])).symm
theorem Bytes_cv (v1 v2 : Value) (l m : List UInt8) (w : World) (h1 : RdV w [] v1 l) (h2 : RdV w [] v2 m) (hl : l.length ≤ 1000000) (hm : m.length ≤ 1000000) :
    Cv 48 #[v1, v2] w (.eq (.bool (decide (l = m)))) := by
  have g1 := h1
  have g2 := h2
  obtain ⟨A1, c1, rfl, _⟩ := g1
  obtain ⟨A2, c2, rfl, _⟩ := g2
  exact Bytes_any A1 A2 _ c1 _ c2 l m w h1 h2 hl hm
end Go.Proofs.Ytilmeffmdgcblaa
/- Slices compared and cloned. -/
namespace Go.Proofs.Ytilmeffmdgcblaa
open Go Go.RowKit
set_option maxRecDepth 8000
set_option linter.all false
theorem strEq2 (l m : List UInt8) : (l == m) = decide (l = m) := by
  by_cases h : l = m
  · subst h; simp
  · simp [h]
set_option maxHeartbeats 400000 in
theorem BEqual_cv (v1 v2 : Value) (l m : List UInt8) (w : World) (h1 : RdV w [] v1 l) (h2 : RdV w [] v2 m) : Cv 72 #[v1, v2] w (.eq (.bool (decide (l = m)))) := by
  unfold Cv
  have k1 := conv_rd h1
  have k2 := conv_rd h2
  clear h1 h2
  rw [← strEq2]
  go_enter Try.func72, Try.ntmps72
  go_wp2
  go_ret
  exact ⟨_, rfl, NewT.refl _, rfl⟩
theorem pairs_ext {l m : List (Int × Int)} {n : Nat} (hl : l.length = n) (hm : m.length = n) (h : ∀ i, i < n → l.getD i (0, 0) = m.getD i (0, 0)) : l = m := by
  apply List.ext_getElem (by omega)
  intro i h1 h2
  have := h i (by omega)
  simpa [List.getD, h1, h2] using this
set_option maxHeartbeats 1000000 in
theorem SlEq_cv (v1 v2 : Value) (l m : List (Int × Int)) (w : World) (h1 : RdP w v1 l) (h2 : RdP w v2 m) : Cv 47 #[v1, v2] w (.eq (.bool (decide (l = m)))) := by
  unfold Cv
  obtain ⟨A1, c1, rfl, p1, p2, p3⟩ := h1
  obtain ⟨A2, c2, rfl, q1, q2, q3⟩ := h2
  unfold maxLen at p2 q2
  by_cases hne : l.length = m.length
  rotate_left
  · have hd : decide (l = m) = false := decide_eq_false fun h => hne (by rw [h])
    have ht : ((l.length : Int) != (m.length : Int)) = true := by simp; omega
    rw [hd]
    clear p3 q3 hd
    generalize l.length = n1 at *
    generalize m.length = n2 at *
    go_enter Try.func47, Try.ntmps47
    go_wp2
    go_ret
    exact ⟨_, rfl, NewT.refl _, rfl⟩
  have P3 := Lib.hid p3
  have Q3 := Lib.hid q3
  clear p3 q3
  generalize hn : l.length = n at *
  rw [← hne] at q1 Q3 ⊢
  have Hn := Lib.hid hn
  have Hm := Lib.hid hne
  clear hn hne
  go_enter Try.func47, Try.ntmps47
  go_wp2
  go_loopw [13] (fun i wr => ∃ k : Nat, k ≤ n ∧ i = .int .i64 k ∧ Hid (∀ i, i < k → l.getD i (0, 0) = m.getD i (0, 0)) ∧ Below w.heap.size w wr) (fun i _ => n - (intOf i).toNat)
  case atStart => exact ⟨0, by omega, rfl, Lib.hid (fun i hi => by omega), Below.refl _ _⟩
  case round =>
    obtain ⟨k, hk, rfl, Hs, qB⟩ := hrel
    by_cases hlt : k < n
    · obtain ⟨b1, o1, rfl, hc1⟩ := P3.out (by omega)
      obtain ⟨b2, o2, rfl, hc2⟩ := Q3.out (by omega)
      obtain ⟨j0, j1⟩ := hc1 k hlt
      obtain ⟨i0, i1⟩ := hc2 k hlt
      have k0 := (qB.cell (p := ⟨b1, o1 + 2 * k, none⟩) (World.block_lt_of_cell? _ _ j0)).trans j0
      have k1 := (qB.cell (p := ⟨b1, o1 + 2 * k + 1, none⟩) (World.block_lt_of_cell? _ _ j1)).trans j1
      have e0 := (qB.cell (p := ⟨b2, o2 + 2 * k, none⟩) (World.block_lt_of_cell? _ _ i0)).trans i0
      have e1 := (qB.cell (p := ⟨b2, o2 + 2 * k + 1, none⟩) (World.block_lt_of_cell? _ _ i1)).trans i1
      have Hno : Hid (l.getD k (0, 0) ≠ m.getD k (0, 0) → l ≠ m) := Lib.hid (fun h e => h (by rw [e]))
      have Hnx : Hid (l.getD k (0, 0) = m.getD k (0, 0) → ∀ i, i < k + 1 → l.getD i (0, 0) = m.getD i (0, 0)) := Lib.hid (fun h i hi => by
        rcases Nat.lt_succ_iff_lt_or_eq.1 hi with h1 | rfl
        · exact Hs.out i h1
        · exact h)
      clear hc1 hc2 j0 j1 i0 i1
      generalize l.getD k (0, 0) = s at k0 k1 Hno Hnx
      generalize m.getD k (0, 0) = t at e0 e1 Hno Hnx
      have it : (k : Int) < (n : Int) := by omega
      by_cases hq : s = t
      · go_upto_region 6 with fail
        generalize wr = W6 at *
        refine wp_region_rely (NewT) [SV.eq (.slice (some ⟨b1, o1, none⟩) n c1), SV.eq (.int .i64 ((k : Int))), SV.eq (.pointer (some ⟨b1, o1 + 2 * k, none⟩)), SV.eq (.agg (rowA 2 (stepF s))), SV.eq (.slice (some ⟨b2, o2, none⟩) n c2), SV.eq (.int .i64 ((k : Int))), SV.eq (.pointer (some ⟨b2, o2 + 2 * k, none⟩)), SV.eq (.agg (rowA 2 (stepF t)))] [([(0, none)], none), ([(5, none)], none), ([(16, some 0), (17, some 1)], none), ([(18, some 2)], none), ([(1, none)], none), ([(5, none)], none), ([(20, some 4), (21, some 5)], none), ([(22, some 6)], none)] 26 rfl (by kernel_rfl) rfl (by kernel_rfl) (by kernel_rfl) rfl NewT.trans (NewT.drew _) (Nat.le_of_ble_eq_true rfl) ⟨?_, ?_, ?_, ?_, ?_, ?_, ?_, ?_, trivial⟩ ?_
        · exact fun a wx hT hF K hK => rely_wp rfl (opr_move (.inl rfl) (hK _ _ (NewT.refl _) hF.1))
        · exact fun a wx hT hF K hK => rely_wp rfl (opr_move (.inl rfl) (hK _ _ (NewT.refl _) hF.1))
        · exact fun a wx hT hF K hK => rely_wp rfl (opr_idxS hlt rfl hF.1 hF.2.1 (hK _ _ (NewT.refl _) rfl))
        · exact fun a wx hT hF K hK => rely_wp rfl (opr_ld2 ((hT.out.cell (World.block_lt_of_cell? _ _ k0)).trans k0) ((hT.out.cell (World.block_lt_of_cell? _ _ k1)).trans k1) rfl hF.1 (hK _ _ (NewT.refl _) rfl))
        · exact fun a wx hT hF K hK => rely_wp rfl (opr_move (.inl rfl) (hK _ _ (NewT.refl _) hF.1))
        · exact fun a wx hT hF K hK => rely_wp rfl (opr_move (.inl rfl) (hK _ _ (NewT.refl _) hF.1))
        · exact fun a wx hT hF K hK => rely_wp rfl (opr_idxS hlt rfl hF.1 hF.2.1 (hK _ _ (NewT.refl _) rfl))
        · exact fun a wx hT hF K hK => rely_wp rfl (opr_ld2 ((hT.out.cell (World.block_lt_of_cell? _ _ e0)).trans e0) ((hT.out.cell (World.block_lt_of_cell? _ _ e1)).trans e1) rfl hF.1 (hK _ _ (NewT.refl _) rfl))
        · intro wy hT2
          iterate 8 (intro u h; obtain rfl := Eq.symm (h (by simp)); clear h)
          refine relyEnd_nil rfl ?_
          simp only [Act.put, List.setIfInBounds_toArray, List.set_cons_zero, List.set_cons_succ]
          refine opr_neqS (b := false) (by simp [hq]) rfl rfl rfl ?_
          go_simp
          go_wp2
          go_roundw
          case rel => exact ⟨k + 1, by omega, by go_num, Lib.hid (Hnx.out hq), qB.trans (hT2.out.mono qB.size)⟩
          case measure => simp [intOf]; omega
      · go_upto_region 6 with fail
        generalize wr = W6 at *
        refine wp_region_rely (NewT) [SV.eq (.slice (some ⟨b1, o1, none⟩) n c1), SV.eq (.int .i64 ((k : Int))), SV.eq (.pointer (some ⟨b1, o1 + 2 * k, none⟩)), SV.eq (.agg (rowA 2 (stepF s))), SV.eq (.slice (some ⟨b2, o2, none⟩) n c2), SV.eq (.int .i64 ((k : Int))), SV.eq (.pointer (some ⟨b2, o2 + 2 * k, none⟩)), SV.eq (.agg (rowA 2 (stepF t)))] [([(0, none)], none), ([(5, none)], none), ([(16, some 0), (17, some 1)], none), ([(18, some 2)], none), ([(1, none)], none), ([(5, none)], none), ([(20, some 4), (21, some 5)], none), ([(22, some 6)], none)] 26 rfl (by kernel_rfl) rfl (by kernel_rfl) (by kernel_rfl) rfl NewT.trans (NewT.drew _) (Nat.le_of_ble_eq_true rfl) ⟨?_, ?_, ?_, ?_, ?_, ?_, ?_, ?_, trivial⟩ ?_
        · exact fun a wx hT hF K hK => rely_wp rfl (opr_move (.inl rfl) (hK _ _ (NewT.refl _) hF.1))
        · exact fun a wx hT hF K hK => rely_wp rfl (opr_move (.inl rfl) (hK _ _ (NewT.refl _) hF.1))
        · exact fun a wx hT hF K hK => rely_wp rfl (opr_idxS hlt rfl hF.1 hF.2.1 (hK _ _ (NewT.refl _) rfl))
        · exact fun a wx hT hF K hK => rely_wp rfl (opr_ld2 ((hT.out.cell (World.block_lt_of_cell? _ _ k0)).trans k0) ((hT.out.cell (World.block_lt_of_cell? _ _ k1)).trans k1) rfl hF.1 (hK _ _ (NewT.refl _) rfl))
        · exact fun a wx hT hF K hK => rely_wp rfl (opr_move (.inl rfl) (hK _ _ (NewT.refl _) hF.1))
        · exact fun a wx hT hF K hK => rely_wp rfl (opr_move (.inl rfl) (hK _ _ (NewT.refl _) hF.1))
        · exact fun a wx hT hF K hK => rely_wp rfl (opr_idxS hlt rfl hF.1 hF.2.1 (hK _ _ (NewT.refl _) rfl))
        · exact fun a wx hT hF K hK => rely_wp rfl (opr_ld2 ((hT.out.cell (World.block_lt_of_cell? _ _ e0)).trans e0) ((hT.out.cell (World.block_lt_of_cell? _ _ e1)).trans e1) rfl hF.1 (hK _ _ (NewT.refl _) rfl))
        · intro wy hT2
          iterate 8 (intro u h; obtain rfl := Eq.symm (h (by simp)); clear h)
          refine relyEnd_nil rfl ?_
          simp only [Act.put, List.setIfInBounds_toArray, List.set_cons_zero, List.set_cons_succ]
          refine opr_neqS (b := true) (by simp [hq]) rfl rfl rfl ?_
          go_simp
          go_wp2
          go_ret
          exact ⟨_, rfl, qB.trans (hT2.out.mono qB.size), by rw [decide_eq_false (Hno.out hq)]; rfl⟩
    · obtain rfl : k = n := by omega
      go_wp2
      go_ret
      exact ⟨_, rfl, qB, by rw [decide_eq_true (pairs_ext Hn.out Hm.out.symm Hs.out)]; rfl⟩
set_option maxHeartbeats 1000000 in
theorem RSteps_cv (v1 v2 : Value) (l m : List (Int × Int)) (w : World) (h1 : RdP w v1 l) (h2 : RdP w v2 m) : Cv 40 #[v1, v2] w (.eq (.bool (decide (l = m)))) := by
  unfold Cv
  obtain ⟨A1, c1, rfl, p1, p2, p3⟩ := h1
  obtain ⟨A2, c2, rfl, q1, q2, q3⟩ := h2
  unfold maxLen at p2 q2
  by_cases hne : l.length = m.length
  rotate_left
  · have hd : decide (l = m) = false := decide_eq_false fun h => hne (by rw [h])
    have ht : ((l.length : Int) != (m.length : Int)) = true := by simp; omega
    rw [hd]
    clear p3 q3 hd
    generalize l.length = n1 at *
    generalize m.length = n2 at *
    go_enter Try.func40, Try.ntmps40
    go_wp2
    go_ret
    exact ⟨_, rfl, NewT.refl _, rfl⟩
  have P3 := Lib.hid p3
  have Q3 := Lib.hid q3
  clear p3 q3
  generalize hn : l.length = n at *
  rw [← hne] at q1 Q3 ⊢
  have Hn := Lib.hid hn
  have Hm := Lib.hid hne
  clear hn hne
  go_enter Try.func40, Try.ntmps40
  go_wp2
  go_loopw [5] (fun i wr => ∃ k : Nat, k ≤ n ∧ i = .int .i64 k ∧ Hid (∀ i, i < k → l.getD i (0, 0) = m.getD i (0, 0)) ∧ Below w.heap.size w wr) (fun i _ => n - (intOf i).toNat)
  case atStart => exact ⟨0, by omega, rfl, Lib.hid (fun i hi => by omega), Below.refl _ _⟩
  case round =>
    obtain ⟨k, hk, rfl, Hs, qB⟩ := hrel
    by_cases hlt : k < n
    · obtain ⟨b1, o1, rfl, hc1⟩ := P3.out (by omega)
      obtain ⟨b2, o2, rfl, hc2⟩ := Q3.out (by omega)
      obtain ⟨j0, j1⟩ := hc1 k hlt
      obtain ⟨i0, i1⟩ := hc2 k hlt
      have k0 := (qB.cell (p := ⟨b1, o1 + 2 * k, none⟩) (World.block_lt_of_cell? _ _ j0)).trans j0
      have k1 := (qB.cell (p := ⟨b1, o1 + 2 * k + 1, none⟩) (World.block_lt_of_cell? _ _ j1)).trans j1
      have e0 := (qB.cell (p := ⟨b2, o2 + 2 * k, none⟩) (World.block_lt_of_cell? _ _ i0)).trans i0
      have e1 := (qB.cell (p := ⟨b2, o2 + 2 * k + 1, none⟩) (World.block_lt_of_cell? _ _ i1)).trans i1
      have Hno : Hid (l.getD k (0, 0) ≠ m.getD k (0, 0) → l ≠ m) := Lib.hid (fun h e => h (by rw [e]))
      have Hnx : Hid (l.getD k (0, 0) = m.getD k (0, 0) → ∀ i, i < k + 1 → l.getD i (0, 0) = m.getD i (0, 0)) := Lib.hid (fun h i hi => by
        rcases Nat.lt_succ_iff_lt_or_eq.1 hi with h1 | rfl
        · exact Hs.out i h1
        · exact h)
      clear hc1 hc2 j0 j1 i0 i1
      generalize l.getD k (0, 0) = s at k0 k1 Hno Hnx
      generalize m.getD k (0, 0) = t at e0 e1 Hno Hnx
      have it : (k : Int) < (n : Int) := by omega
      by_cases hq : s = t
      · go_upto_region 6 with fail
        generalize wr = W6 at *
        refine wp_region_rely (NewT) [SV.eq (.slice (some ⟨b1, o1, none⟩) n c1), SV.eq (.int .i64 ((k : Int))), SV.eq (.pointer (some ⟨b1, o1 + 2 * k, none⟩)), SV.eq (.agg (rowA 2 (stepF s))), SV.eq (.slice (some ⟨b2, o2, none⟩) n c2), SV.eq (.int .i64 ((k : Int))), SV.eq (.pointer (some ⟨b2, o2 + 2 * k, none⟩)), SV.eq (.agg (rowA 2 (stepF t)))] [([(0, none)], none), ([(5, none)], none), ([(17, some 0), (18, some 1)], none), ([(19, some 2)], none), ([(1, none)], none), ([(5, none)], none), ([(21, some 4), (22, some 5)], none), ([(23, some 6)], none)] 26 rfl (by kernel_rfl) rfl (by kernel_rfl) (by kernel_rfl) rfl NewT.trans (NewT.drew _) (Nat.le_of_ble_eq_true rfl) ⟨?_, ?_, ?_, ?_, ?_, ?_, ?_, ?_, trivial⟩ ?_
        · exact fun a wx hT hF K hK => rely_wp rfl (opr_move (.inl rfl) (hK _ _ (NewT.refl _) hF.1))
        · exact fun a wx hT hF K hK => rely_wp rfl (opr_move (.inl rfl) (hK _ _ (NewT.refl _) hF.1))
        · exact fun a wx hT hF K hK => rely_wp rfl (opr_idxS hlt rfl hF.1 hF.2.1 (hK _ _ (NewT.refl _) rfl))
        · exact fun a wx hT hF K hK => rely_wp rfl (opr_ld2 ((hT.out.cell (World.block_lt_of_cell? _ _ k0)).trans k0) ((hT.out.cell (World.block_lt_of_cell? _ _ k1)).trans k1) rfl hF.1 (hK _ _ (NewT.refl _) rfl))
        · exact fun a wx hT hF K hK => rely_wp rfl (opr_move (.inl rfl) (hK _ _ (NewT.refl _) hF.1))
        · exact fun a wx hT hF K hK => rely_wp rfl (opr_move (.inl rfl) (hK _ _ (NewT.refl _) hF.1))
        · exact fun a wx hT hF K hK => rely_wp rfl (opr_idxS hlt rfl hF.1 hF.2.1 (hK _ _ (NewT.refl _) rfl))
        · exact fun a wx hT hF K hK => rely_wp rfl (opr_ld2 ((hT.out.cell (World.block_lt_of_cell? _ _ e0)).trans e0) ((hT.out.cell (World.block_lt_of_cell? _ _ e1)).trans e1) rfl hF.1 (hK _ _ (NewT.refl _) rfl))
        · intro wy hT2
          iterate 8 (intro u h; obtain rfl := Eq.symm (h (by simp)); clear h)
          refine relyEnd_nil rfl ?_
          simp only [Act.put, List.setIfInBounds_toArray, List.set_cons_zero, List.set_cons_succ]
          refine opr_neqS (b := false) (by simp [hq]) rfl rfl rfl ?_
          go_simp
          go_wp2
          go_roundw
          case rel => exact ⟨k + 1, by omega, by go_num, Lib.hid (Hnx.out hq), qB.trans (hT2.out.mono qB.size)⟩
          case measure => simp [intOf]; omega
      · go_upto_region 6 with fail
        generalize wr = W6 at *
        refine wp_region_rely (NewT) [SV.eq (.slice (some ⟨b1, o1, none⟩) n c1), SV.eq (.int .i64 ((k : Int))), SV.eq (.pointer (some ⟨b1, o1 + 2 * k, none⟩)), SV.eq (.agg (rowA 2 (stepF s))), SV.eq (.slice (some ⟨b2, o2, none⟩) n c2), SV.eq (.int .i64 ((k : Int))), SV.eq (.pointer (some ⟨b2, o2 + 2 * k, none⟩)), SV.eq (.agg (rowA 2 (stepF t)))] [([(0, none)], none), ([(5, none)], none), ([(17, some 0), (18, some 1)], none), ([(19, some 2)], none), ([(1, none)], none), ([(5, none)], none), ([(21, some 4), (22, some 5)], none), ([(23, some 6)], none)] 26 rfl (by kernel_rfl) rfl (by kernel_rfl) (by kernel_rfl) rfl NewT.trans (NewT.drew _) (Nat.le_of_ble_eq_true rfl) ⟨?_, ?_, ?_, ?_, ?_, ?_, ?_, ?_, trivial⟩ ?_
        · exact fun a wx hT hF K hK => rely_wp rfl (opr_move (.inl rfl) (hK _ _ (NewT.refl _) hF.1))
        · exact fun a wx hT hF K hK => rely_wp rfl (opr_move (.inl rfl) (hK _ _ (NewT.refl _) hF.1))
        · exact fun a wx hT hF K hK => rely_wp rfl (opr_idxS hlt rfl hF.1 hF.2.1 (hK _ _ (NewT.refl _) rfl))
        · exact fun a wx hT hF K hK => rely_wp rfl (opr_ld2 ((hT.out.cell (World.block_lt_of_cell? _ _ k0)).trans k0) ((hT.out.cell (World.block_lt_of_cell? _ _ k1)).trans k1) rfl hF.1 (hK _ _ (NewT.refl _) rfl))
        · exact fun a wx hT hF K hK => rely_wp rfl (opr_move (.inl rfl) (hK _ _ (NewT.refl _) hF.1))
        · exact fun a wx hT hF K hK => rely_wp rfl (opr_move (.inl rfl) (hK _ _ (NewT.refl _) hF.1))
        · exact fun a wx hT hF K hK => rely_wp rfl (opr_idxS hlt rfl hF.1 hF.2.1 (hK _ _ (NewT.refl _) rfl))
        · exact fun a wx hT hF K hK => rely_wp rfl (opr_ld2 ((hT.out.cell (World.block_lt_of_cell? _ _ e0)).trans e0) ((hT.out.cell (World.block_lt_of_cell? _ _ e1)).trans e1) rfl hF.1 (hK _ _ (NewT.refl _) rfl))
        · intro wy hT2
          iterate 8 (intro u h; obtain rfl := Eq.symm (h (by simp)); clear h)
          refine relyEnd_nil rfl ?_
          simp only [Act.put, List.setIfInBounds_toArray, List.set_cons_zero, List.set_cons_succ]
          refine opr_neqS (b := true) (by simp [hq]) rfl rfl rfl ?_
          go_simp
          go_wp2
          go_ret
          exact ⟨_, rfl, qB.trans (hT2.out.mono qB.size), by rw [decide_eq_false (Hno.out hq)]; rfl⟩
    · obtain rfl : k = n := by omega
      go_wp2
      go_ret
      exact ⟨_, rfl, qB, by rw [decide_eq_true (pairs_ext Hn.out Hm.out.symm Hs.out)]; rfl⟩
end Go.Proofs.Ytilmeffmdgcblaa
/- Package saga: whether steps may be, new sagas, whether two are the same. -/
namespace Go.Proofs.Ytilmeffmdgcblaa
open Go Go.RowKit
set_option maxRecDepth 8000
set_option linter.all false
set_option maxHeartbeats 4000000 in
theorem gMay_cv (v : Value) (l : List (Int × Int)) (w : World) (h : RdP w v l) : Cv 35 #[v] w (.eq (.bool (mayL l))) := by
  unfold Cv
  have HS := Lib.hid h
  obtain ⟨A0, cap, rfl, h1, h2, h3⟩ := h
  unfold maxLen at h2
  clear h3
  obtain ⟨n, hn⟩ : ∃ n, l.length = n := ⟨_, rfl⟩
  rw [hn] at h1 HS ⊢
  have Hn := Lib.hid hn
  clear hn
  cases hin : inR (n : Int) 1 6
  · have HE : Hid (mayL l = false) := Lib.hid (by unfold mayL; rw [Hn.out, hin]; rfl)
    go_enter Try.func35, Try.ntmps35
    go_wp2_with (go_at_call 50; refine (gWithin_cv n 1 6 w).eq.mono ?_; rintro _ w' ⟨rfl, hB⟩; rw [hin])
    go_ret
    exact ⟨_, rfl, hB, by show _ = Value.bool _; rw [HE.out]; first | done | rfl⟩
  have hr := (inR_iff _ _ _).1 hin
  go_enter Try.func35, Try.ntmps35
  go_wp2_with (go_at_call 50; refine (gWithin_cv n 1 6 w).eq.mono ?_; rintro _ w' ⟨rfl, hB⟩; rw [hin])
  go_loopw [3, 12] (fun m i wr => ∃ k : Nat, k ≤ n ∧ m = .int .i64 (leastN l k) ∧ i = .int .i64 k ∧ Hid (upMay l k = true) ∧ Hid (NewT w wr)) (fun _ i _ => n - (intOf i).toNat)
  case atStart => exact ⟨0, by omega, rfl, rfl, Lib.hid rfl, Lib.hid hB⟩
  case round =>
    clear hB
    have HI := Lib.hid hin
    clear hin
    obtain ⟨k, hk, rfl, rfl, HU, HM⟩ := hrel
    by_cases hlt : k < n
    · have HKL : Hid (k < l.length) := Lib.hid (by rw [Hn.out]; exact hlt)
      obtain ⟨d, HDD⟩ := hid_ex (l.getD k (0, 0))
      have it : (k : Int) < (n : Int) := by omega
      go_upto_region 6 with fail
      refine wp_region_steps0 NewT [svStp (d), SV.eq ((.agg (rowA 2 (stepF (d)))))] [([(10, none), (12, none)], none), ([(14, some 0)], none)] 32 2 rfl rfl (by kernel_rfl) NewT.trans (NewT.refl _) (Nat.le_of_ble_eq_true rfl) ⟨?_, ?_, trivial⟩ ?_
      · intro a wx hT hF K hK
        obtain ⟨f10, f12, _⟩ := hF
        have f10 : a.tmps.getD 10 undef = (.slice A0 n cap) := f10
        have f12 : a.tmps.getD 12 undef = .int .i64 ((k : Int)) := f12
        refine rely_wp rfl ?_
        exact opr_idxSt (k := k) (d := d) (⟨HKL.out, HDD.out⟩) (rfl) rfl (by rw [eval_tmp, f10]; exact ((NewT.trans _ _ _ HM.out hT).pairs HS.out)) f12 (fun v hv => hK v _ (NewT.refl _) hv)
      · exact fun a wx hT hF K hK => rely_wp rfl (opr_ldStp rfl hF.1 (hK _ _ (NewT.refl _) rfl))
      · intro w1 k1
        intro _ _
        intro u h; obtain rfl := Eq.symm (h (by simp)); clear h
        refine relyEnd_nil rfl ?_
        simp only [Act.put, List.setIfInBounds_toArray, List.set_cons_zero, List.set_cons_succ]
        refine wpList_new (n := 2) (f := stepF d) rfl rfl rfl rfl rfl rfl (by first | (simp; done) | simp [Act.put]) run_alloc_step info_step (stepF_one d) rfl ?_
        intro W1 hn1 rr1
        refine wpList_end rfl ?_
        simp only [Act.put, List.setIfInBounds_toArray, List.set_cons_zero, List.set_cons_succ]
        go_simp
        obtain ⟨g5, h_g5⟩ : ∃ g_, w1.heap.size = g_ := ⟨_, rfl⟩
        rw [h_g5] at rr1
        simp only [h_g5]
        have HGg5 : Hid (w.heap.size ≤ g5) := Lib.hid (by rw [← h_g5]; exact (NewT.trans _ _ _ HM.out k1).out.size)
        have q1 := NewT.trans _ _ _ k1 hn1
        clear k1 hn1 h_g5
        replace HM := Lib.hid (NewT.trans _ _ _ HM.out q1)
        clear q1
        have Rg5 := Lib.hid rr1
        clear rr1
        go_upto_region 7 with fail
        obtain ⟨q1_7, Q1_7⟩ : ∃ bq_, ((!(inR d.1 0 3)) || (!(inR d.2 (leastN l k) 3))) = bq_ := ⟨_, rfl⟩
        refine wp_region_steps0 NewT [SV.eq (.pointer (some ⟨g5, 0 + 0, none⟩)), SV.eq (.int .i64 (d.1)), SV.eq (.bool (inR d.1 0 3)), SV.eq (.bool (!(inR d.1 0 3))), SV.eq (.bool (!(inR d.1 0 3))), svIf ((!(!(inR d.1 0 3)))) (SV.eq (.pointer (some ⟨g5, 0 + 1, none⟩))), svIf ((!(!(inR d.1 0 3)))) (SV.eq (.int .i64 (d.2))), svIf ((!(!(inR d.1 0 3)))) (SV.eq (.int .i64 (leastN l k))), svIf ((!(!(inR d.1 0 3)))) (SV.eq (.bool (inR d.2 (leastN l k) 3))), svIf ((!(!(inR d.1 0 3)))) (SV.eq (.bool (!(inR d.2 (leastN l k) 3)))), SV.eq (.bool (q1_7))] [([(5, none)], none), ([(16, some 0)], none), ([(17, some 1)], none), ([(18, some 2)], none), ([(19, some 3)], none), ([(5, none), (20, some 4)], some (20, false)), ([(21, some 5), (20, some 4)], some (20, false)), ([(3, none), (20, some 4)], some (20, false)), ([(22, some 6), (23, some 7), (20, some 4)], some (20, false)), ([(24, some 8), (20, some 4)], some (20, false)), ([(20, some 4), (25, some 9)], none)] 32 11 rfl rfl (by kernel_rfl) NewT.trans (NewT.refl _) (Nat.le_of_ble_eq_true rfl) ⟨?_, ?_, ?_, ?_, ?_, ?_, ?_, ?_, ?_, ?_, ?_, trivial⟩ ?_
        · exact fun a wx hT hF K hK => rely_wp rfl (opr_fldS (by decide) rfl hF.1 (hK _ _ (NewT.refl _) rfl))
        · exact fun a wx hT hF K hK => rely_wp rfl (opr_ldI (hT.row Rg5.out) (by decide) rfl rfl hF.1 (hK _ _ (NewT.refl _) rfl))
        · exact fun a wx hT hF K hK => rely_wp rfl (opr_cv (gWithin_cv d.1 0 3 wx) rfl Try.func50 (by kernel_rfl) (by kernel_rfl) (evs3 hF.1 rfl rfl) hK)
        · exact fun a wx hT hF K hK => rely_wp rfl (opr_not rfl hF.1 (hK _ _ (NewT.refl _) rfl))
        · exact fun a wx hT hF K hK => rely_wp rfl (opr_move (.inl rfl) (hK _ _ (NewT.refl _) hF.1))
        · exact fun a wx hT hF K hK => rely_if (rely_gf hF.2.1) (NewT.refl _) hK fun hE hK => opr_fldS (by decide) rfl hF.1 (hK _ _ (NewT.refl _) rfl)
        · exact fun a wx hT hF K hK => rely_if (rely_gf hF.2.1) (NewT.refl _) hK fun hE hK => opr_ldI (hT.row Rg5.out) (by decide) rfl rfl (hF.1 hE) (hK _ _ (NewT.refl _) rfl)
        · exact fun a wx hT hF K hK => rely_if (rely_gf hF.2.1) (NewT.refl _) hK fun hE hK => opr_move (.inl rfl) (hK _ _ (NewT.refl _) hF.1)
        · exact fun a wx hT hF K hK => rely_if (rely_gf hF.2.2.1) (NewT.refl _) hK fun hE hK => opr_cv (gWithin_cv d.2 (leastN l k) 3 wx) rfl Try.func50 (by kernel_rfl) (by kernel_rfl) (evs3 (hF.1 hE) (hF.2.1 hE) rfl) hK
        · exact fun a wx hT hF K hK => rely_if (rely_gf hF.2.1) (NewT.refl _) hK fun hE hK => opr_not rfl (hF.1 hE) (hK _ _ (NewT.refl _) rfl)
        · exact fun a wx hT hF K hK => rely_wp rfl (opr_pick_b rfl hF.1 (fun hb => hK _ _ (NewT.refl _) (pn_or1 Q1_7 hb)) (fun hb => hK _ _ (NewT.refl _) (pn_or0 Q1_7 (hF.2.1 (bnot hb)) hb)))
        · intro w2 k2
          iterate 5 (intro u h; obtain rfl := Eq.symm (h (by simp)); clear h)
          iterate 5 (intro _ _)
          intro u h; obtain rfl := Eq.symm (h (by simp)); clear h
          subst Q1_7
          refine relyEnd_nil rfl ?_
          refine wpList_end rfl ?_
          simp only [Act.put, List.setIfInBounds_toArray, List.set_cons_zero, List.set_cons_succ]
          go_simp
          replace Rg5 := Lib.hid (k2.row Rg5.out)
          replace HM := Lib.hid (NewT.trans _ _ _ HM.out k2)
          clear k2
          have HQ : Hid ((!inR d.1 0 3 || !inR d.2 (leastN l k) 3) = !stepMay l k) := Lib.hid (by have := step_prog HU.out; unfold ptL kdL at this; rw [HDD.out] at this; exact this)
          cases hq : (!inR d.1 0 3 || !inR d.2 (leastN l k) 3)
          · have HOKS : Hid (stepMay l k = true) := Lib.hid (by have := HQ.out; rw [hq] at this; simpa using this.symm)
            clear hq HQ
            go_upto_region 9 with fail
            refine wp_region_steps0 NewT [SV.eq (.pointer (some ⟨g5, 0 + 1, none⟩)), SV.eq (.int .i64 (d.2)), SV.eq (.int .i64 (d.2))] [([(5, none)], none), ([(27, some 0)], none), ([(28, some 1)], none)] 32 3 rfl rfl (by kernel_rfl) NewT.trans (NewT.refl _) (Nat.le_of_ble_eq_true rfl) ⟨?_, ?_, ?_, trivial⟩ ?_
            · exact fun a wx hT hF K hK => rely_wp rfl (opr_fldS (by decide) rfl hF.1 (hK _ _ (NewT.refl _) rfl))
            · exact fun a wx hT hF K hK => rely_wp rfl (opr_ldI (hT.row Rg5.out) (by decide) rfl rfl hF.1 (hK _ _ (NewT.refl _) rfl))
            · exact fun a wx hT hF K hK => rely_wp rfl (opr_move (.inr rfl) (hK _ _ (NewT.refl _) hF.1))
            · intro w3 k3
              iterate 3 (intro u h; obtain rfl := Eq.symm (h (by simp)); clear h)
              refine relyEnd_nil rfl ?_
              refine wpList_end rfl ?_
              simp only [Act.put, List.setIfInBounds_toArray, List.set_cons_zero, List.set_cons_succ]
              go_simp
              replace Rg5 := Lib.hid (k3.row Rg5.out)
              replace HM := Lib.hid (NewT.trans _ _ _ HM.out k3)
              clear k3
              have HLN : Hid (leastN l (k + 1) = if d.2 = 2 then 3 else d.2) := Lib.hid (by rw [least_next]; unfold kdL; rw [HDD.out])
              have HUN : Hid (upMay l (k + 1) = true) := Lib.hid (by rw [upMay_succ, HU.out, HOKS.out]; rfl)
              cases h2 : (d.2 == 2)
              · go_wp2
                go_roundw
                case rel => exact ⟨k + 1, by omega, by rw [HLN.out, if_neg (by simpa using h2)], by go_num, HUN, HM⟩
                case measure => simp [intOf]; omega
              · go_wp2
                go_roundw
                case rel => exact ⟨k + 1, by omega, by rw [HLN.out, if_pos (by simpa using h2)], by go_num, HUN, HM⟩
                case measure => simp [intOf]; omega
          · have HE : Hid (mayL l = false) := Lib.hid (by
              have hs : stepMay l k = false := by have := HQ.out; rw [hq] at this; simpa using this.symm
              unfold mayL; rw [upMay_no HKL.out hs, Bool.and_false])
            clear hq HQ
            go_wp2
            go_ret
            exact ⟨_, rfl, HM.out, by show _ = Value.bool _; rw [HE.out]; first | done | rfl⟩
    · obtain rfl : k = n := by omega
      have HE : Hid (mayL l = true) := Lib.hid (by unfold mayL; rw [Hn.out, HI.out, HU.out]; rfl)
      go_wp2
      go_ret
      exact ⟨_, rfl, HM.out, by show _ = Value.bool _; rw [HE.out]; first | done | rfl⟩
/-- A saga whose steps lie in a block from B on. -/
def SgVN (w : World) (B : Nat) (v : Value) (l : List (Int × Int)) (g : Sg) : Prop := ∃ sv, v = .agg (rowA 10 (sgF sv g)) ∧ RdPB w B sv l
theorem NewT.sgVN {w w' : World} (h : NewT w w') {B : Nat} {v : Value} {l : List (Int × Int)} {g : Sg} (hr : SgVN w B v l g) : SgVN w' B v l g := by
  obtain ⟨sv, h1, h2⟩ := hr
  exact ⟨sv, h1, h2.new h⟩
def svSgN (B : Nat) (l : List (Int × Int)) (g : Sg) : SV NewT := ⟨fun v w => SgVN w B v l g, fun _ _ _ h hT => hT.sgVN h⟩
theorem rdPB_nil (w : World) (B : Nat) : RdPB w B (.slice none 0 0) [] := ⟨rdP_nil w, fun h => absurd h (by simp)⟩
theorem opr_bldU {a : Act} {w : World} {o : Oper} {K : Act → World → Prop} {Q : Exit → Act → World → Prop} {x : Operand} {B : Nat} {l : List (Int × Int)} (ho : o.op = .build 48 #[(0, x), (1, .const (.int .i64 0)), (9, .const (.int .i64 1))]) (hx : RdPB w B (a.eval x) l) (h : ∀ v, SgVN w B v l (ofSt st0 1) → K (a.put o.dst v) w) : o.wp Try.prog a w K Q := by
  obtain ⟨A0, c, hv, _⟩ := hx.1
  exact opr_build (pv := #[(0, .slice A0 l.length c), (1, .int .i64 0), (9, .int .i64 1)]) ho (by simp only [List.map_toArray, List.map_cons, List.map_nil, eval_const, hv]) (build_saga A0 l.length c w) (h _ ⟨_, rfl, by rw [← hv]; exact hx⟩)
theorem CloneS_cvM (v : Value) (l : List (Int × Int)) (B : Nat) (w : World) (hB : B ≤ w.heap.size) (h : RdP w v l) (hl : l.length ≤ 900000) : Cv 36 #[v] w (svPairsN B l) :=
  (CloneS_cvN v l w h hl).mono fun _ _ ⟨v', h1, h2, h3⟩ => ⟨v', h1, h2, RdPB.mono h3 hB⟩
set_option maxHeartbeats 4000000 in
theorem gNew_cv (v : Value) (l : List (Int × Int)) (w : World) (h : RdP w v l) : Cv 21 #[v] w (svSgN w.heap.size (newL l) (newG l)) := by
  unfold Cv
  have HS := Lib.hid h
  clear h
  go_enter Try.func21, Try.ntmps21
  go_upto_region 1 with fail
  have r_g1 := rowIs_box w 48 10 (sgF (.slice none 0 0) zG)
  have hN : NewT w (w.alloc (.cells (rowA 10 (sgF (.slice none 0 0) zG)) 48)) := NewT.alloc _ _
  change Code.wp _ _ _ _ (w.alloc (.cells (rowA 10 (sgF (.slice none 0 0) zG)) 48))
  generalize (w.alloc (.cells (rowA 10 (sgF (.slice none 0 0) zG)) 48)) = W0 at r_g1 hN ⊢
  obtain ⟨g1, h_g1⟩ : ∃ g_, w.heap.size = g_ := ⟨_, rfl⟩
  have HG : Hid (w.heap.size ≤ g1) := Lib.hid (by omega)
  rw [h_g1] at r_g1
  simp only [h_g1]
  have Rg1 := Lib.hid r_g1
  have HM := Lib.hid hN
  clear r_g1 hN h_g1
  go_upto_region 1 with fail
  refine wp_region_steps0 NewT [SV.eq (v), SV.eq (.bool (mayL l)), SV.eq (.bool (!(mayL l)))] [([(0, none)], none), ([(3, some 0)], none), ([(4, some 1)], none)] 10 3 rfl rfl (by kernel_rfl) NewT.trans (NewT.refl _) (Nat.le_of_ble_eq_true rfl) ⟨?_, ?_, ?_, trivial⟩ ?_
  · exact fun a wx hT hF K hK => rely_wp rfl (opr_move (.inl rfl) (hK _ _ (NewT.refl _) hF.1))
  · exact fun a wx hT hF K hK => rely_wp rfl (opr_cv (gMay_cv _ l wx ((NewT.trans _ _ _ HM.out hT).pairs HS.out)) rfl Try.func35 (by kernel_rfl) (by kernel_rfl) (evs1 hF.1) hK)
  · exact fun a wx hT hF K hK => rely_wp rfl (opr_not rfl hF.1 (hK _ _ (NewT.refl _) rfl))
  · intro w1 k1
    iterate 3 (intro u h; obtain rfl := Eq.symm (h (by simp)); clear h)
    refine relyEnd_nil rfl ?_
    refine wpList_end rfl ?_
    simp only [Act.put, List.setIfInBounds_toArray, List.set_cons_zero, List.set_cons_succ]
    go_simp
    replace Rg1 := Lib.hid (k1.row Rg1.out)
    replace HM := Lib.hid (NewT.trans _ _ _ HM.out k1)
    clear k1
    cases hb : mayL l
    · have HE : Hid (newL l = [] ∧ newG l = zG) := Lib.hid ⟨by unfold newL; rw [hb, if_neg (by simp)], by unfold newG; rw [hb, if_neg (by simp)]⟩
      clear hb
      go_upto_region 2 with fail
      refine wp_region_steps0 NewT [SV.eq ((.agg (rowA 10 (sgF (.slice none 0 0) zG))))] [([], none)] 10 1 rfl rfl (by kernel_rfl) NewT.trans (NewT.refl _) (Nat.le_of_ble_eq_true rfl) ⟨?_, trivial⟩ ?_
      · exact fun a wx hT hF K hK => rely_wp rfl (opr_build (pv := #[]) rfl (by simp) (build_saga0 wx) (hK _ _ (NewT.refl _) rfl))
      · intro w2 k2
        intro u h; obtain rfl := Eq.symm (h (by simp)); clear h
        refine relyEnd_nil rfl ?_
        simp only [Act.put, List.setIfInBounds_toArray, List.set_cons_zero, List.set_cons_succ]
        refine wpList_plain rfl (fun K hK => ?_)
        refine opr_putm (g := g1) (o0 := 0) (m := 10) (f := sgF (.slice none 0 0) zG) (F := sgF (.slice none 0 0) zG) rfl rfl rfl (k2.row Rg1.out) (by decide) info_saga (sgF_one _ _ rfl) (put_allN _ _ _) ?_
        intro W2 hR2 rr2
        refine hK _ _ ?_
        clear hK K
        refine wpList_end rfl ?_
        simp only [Act.put, List.setIfInBounds_toArray, List.set_cons_zero, List.set_cons_succ]
        go_simp
        replace Rg1 := Lib.hid rr2
        replace HM := Lib.hid (NewT.rt (NewT.trans _ _ _ HM.out k2) hR2 (by have h_0 := HG.out; omega))
        clear k2 hR2 rr2
        go_wp2
        exact bodyPost_ret (results_agg rfl _ rfl Rg1.out Try.underlying48 rfl info_saga) rfl ⟨_, rfl, HM.out, by rw [HE.out.1, HE.out.2]; exact ⟨_, rfl, rdPB_nil _ _⟩⟩
    · have HE : Hid (newL l = l ∧ newG l = ofSt st0 1) := Lib.hid ⟨by unfold newL; rw [hb, if_pos rfl], by unfold newG; rw [hb, if_pos rfl]⟩
      have HL9 : Hid (l.length ≤ 900000) := Lib.hid (by have := may_len hb; omega)
      have HGM : Hid (g1 < w1.heap.size) := Lib.hid (Nat.lt_of_lt_of_le Rg1.out.lt (Nat.le_refl _))
      clear hb
      go_upto_region 3 with fail
      refine wp_region_steps0 NewT [SV.eq (v), svPairsN (g1 + 1) l, svSgN (g1 + 1) l (ofSt st0 1)] [([(0, none)], none), ([(7, some 0)], none), ([(8, some 1)], none)] 10 3 rfl rfl (by kernel_rfl) NewT.trans (NewT.refl _) (Nat.le_of_ble_eq_true rfl) ⟨?_, ?_, ?_, trivial⟩ ?_
      · exact fun a wx hT hF K hK => rely_wp rfl (opr_move (.inl rfl) (hK _ _ (NewT.refl _) hF.1))
      · exact fun a wx hT hF K hK => rely_wp rfl (opr_cv (CloneS_cvM _ l (g1 + 1) wx (Nat.le_trans (Nat.succ_le_of_lt HGM.out) hT.out.size) ((NewT.trans _ _ _ HM.out hT).pairs HS.out) HL9.out) rfl Try.func36 (by kernel_rfl) (by kernel_rfl) (evs1 hF.1) hK)
      · exact fun a wx hT hF K hK => rely_wp rfl (opr_bldU rfl hF.1 (fun v hv => hK v _ (NewT.refl _) hv))
      · intro w3 k3
        intro u h; obtain rfl := Eq.symm (h (by simp)); clear h
        intro _ _
        intro u9 h; have g9 := h (by simp); clear h; replace g9 := show (svSgN (g1 + 1) l (ofSt st0 1)).pred u9 w3 from g9
        refine relyEnd_nil rfl ?_
        simp only [Act.put, List.setIfInBounds_toArray, List.set_cons_zero, List.set_cons_succ]
        obtain ⟨sv, rfl, hsv⟩ := (show SgVN w3 (g1 + 1) u9 l (ofSt st0 1) from g9)
        refine wpList_plain rfl (fun K hK => ?_)
        refine opr_putm (g := g1) (o0 := 0) (m := 10) (f := sgF sv (ofSt st0 1)) (F := sgF sv (ofSt st0 1)) rfl rfl rfl (k3.row Rg1.out) (by decide) info_saga (sgF_one _ _ (oneP hsv.1)) (put_allN _ _ _) ?_
        intro W3 hR3 rr3
        refine hK _ _ ?_
        clear hK K
        refine wpList_end rfl ?_
        simp only [Act.put, List.setIfInBounds_toArray, List.set_cons_zero, List.set_cons_succ]
        go_simp
        replace Rg1 := Lib.hid rr3
        replace HM := Lib.hid (NewT.rt (NewT.trans _ _ _ HM.out k3) hR3 (by have h_0 := HG.out; omega))
        have hsf := (hsv.rt hR3 (Nat.lt_succ_self _)).mono (B' := w.heap.size) (by have h_0 := HG.out; omega)
        clear k3 hR3 rr3
        go_wp2
        exact bodyPost_ret (results_agg rfl _ rfl Rg1.out Try.underlying48 rfl info_saga) rfl ⟨_, rfl, HM.out, by rw [HE.out.1, HE.out.2]; exact ⟨_, rfl, hsf⟩⟩
def sameG (l m : List (Int × Int)) (g h : Sg) : Bool := ((((((((decide (l = m) && g.ph == h.ph) && g.at_ == h.at_) && g.tr == h.tr) && g.wt == h.wt) && g.bk == h.bk) && g.dn == h.dn) && g.un == h.un) && g.so == h.so) && g.sq == h.sq
theorem sameG_self (l : List (Int × Int)) (g : Sg) : sameG l l g g = true := by simp [sameG]
set_option maxHeartbeats 4000000 in
theorem sSame_cv (sv tv : Value) (l m : List (Int × Int)) (g h : Sg) (w : World) (hs : RdP w sv l) (hm : RdP w tv m) : Cv 29 #[.agg (rowA 10 (sgF sv g)), .agg (rowA 10 (sgF tv h))] w (.eq (.bool (sameG l m g h))) := by
  unfold Cv
  have HS := Lib.hid hs
  have HSM := Lib.hid hm
  clear hs hm
  go_enter Try.func29, Try.ntmps29
  go_upto_region 1 with fail
  have r_g1 := (rowIs_box w 48 10 (sgF sv g)).alloc (.cells (rowA 10 (sgF tv h)) 48)
  have r_g2 := rowIs_box (w.alloc (.cells (rowA 10 (sgF sv g)) 48)) 48 10 (sgF tv h)
  rw [World.size_alloc] at r_g2
  have hN : NewT w ((w.alloc (.cells (rowA 10 (sgF sv g)) 48)).alloc (.cells (rowA 10 (sgF tv h)) 48)) := (NewT.trans _ _ _ (NewT.alloc _ _) (NewT.alloc _ _))
  change Code.wp _ _ _ _ ((w.alloc (.cells (rowA 10 (sgF sv g)) 48)).alloc (.cells (rowA 10 (sgF tv h)) 48))
  generalize ((w.alloc (.cells (rowA 10 (sgF sv g)) 48)).alloc (.cells (rowA 10 (sgF tv h)) 48)) = W0 at r_g1 r_g2 hN ⊢
  obtain ⟨g1, h_g1⟩ : ∃ g_, w.heap.size = g_ := ⟨_, rfl⟩
  obtain ⟨g2, h_g2⟩ : ∃ g_, w.heap.size + 1 = g_ := ⟨_, rfl⟩
  have HG : Hid (w.heap.size ≤ g1 ∧ g1 < g2) := Lib.hid (by omega)
  rw [h_g1] at r_g1
  rw [h_g2] at r_g2
  try rw [h_g2]
  simp only [h_g1]
  have Rg1 := Lib.hid r_g1
  have Rg2 := Lib.hid r_g2
  have HM := Lib.hid hN
  clear r_g1 r_g2 hN h_g1 h_g2
  go_upto_region 1 with fail
  obtain ⟨q1_1, Q1_1⟩ : ∃ bq_, ((decide (l = m)) && (g.ph == h.ph)) = bq_ := ⟨_, rfl⟩
  obtain ⟨q2_1, Q2_1⟩ : ∃ bq_, ((q1_1 && (g.at_ == h.at_)) && (g.tr == h.tr)) = bq_ := ⟨_, rfl⟩
  obtain ⟨q3_1, Q3_1⟩ : ∃ bq_, ((q2_1 && (g.wt == h.wt)) && (g.bk == h.bk)) = bq_ := ⟨_, rfl⟩
  obtain ⟨q4_1, Q4_1⟩ : ∃ bq_, ((q3_1 && (g.dn == h.dn)) && (g.un == h.un)) = bq_ := ⟨_, rfl⟩
  obtain ⟨q5_1, Q5_1⟩ : ∃ bq_, ((q4_1 && (g.so == h.so)) && (g.sq == h.sq)) = bq_ := ⟨_, rfl⟩
  refine wp_region_steps0 NewT [SV.eq (.pointer (some ⟨g1, 0, none⟩)), SV.eq (sv), SV.eq (.pointer (some ⟨g2, 0, none⟩)), SV.eq (tv), SV.eq (.bool (decide (l = m))), SV.eq (.bool (decide (l = m))), svIf (decide (l = m)) (SV.eq (.pointer (some ⟨g1, 1, none⟩))), svIf (decide (l = m)) (SV.eq (.int .i64 (g.ph))), svIf (decide (l = m)) (SV.eq (.pointer (some ⟨g2, 1, none⟩))), svIf (decide (l = m)) (SV.eq (.int .i64 (h.ph))), svIf (decide (l = m)) (SV.eq (.bool (g.ph == h.ph))), SV.eq (.bool (q1_1)), SV.eq (.bool (q1_1)), svIf q1_1 (SV.eq (.pointer (some ⟨g1, 2, none⟩))), svIf q1_1 (SV.eq (.int .i64 (g.at_))), svIf q1_1 (SV.eq (.pointer (some ⟨g2, 2, none⟩))), svIf q1_1 (SV.eq (.int .i64 (h.at_))), svIf q1_1 (SV.eq (.bool (g.at_ == h.at_))), SV.eq (.bool (q1_1 && (g.at_ == h.at_))), SV.eq (.bool (q1_1 && (g.at_ == h.at_))), svIf (q1_1 && (g.at_ == h.at_)) (SV.eq (.pointer (some ⟨g1, 3, none⟩))), svIf (q1_1 && (g.at_ == h.at_)) (SV.eq (.int .i64 (g.tr))), svIf (q1_1 && (g.at_ == h.at_)) (SV.eq (.pointer (some ⟨g2, 3, none⟩))), svIf (q1_1 && (g.at_ == h.at_)) (SV.eq (.int .i64 (h.tr))), svIf (q1_1 && (g.at_ == h.at_)) (SV.eq (.bool (g.tr == h.tr))), SV.eq (.bool (q2_1)), SV.eq (.bool (q2_1)), svIf q2_1 (SV.eq (.pointer (some ⟨g1, 4, none⟩))), svIf q2_1 (SV.eq (.bool (g.wt))), svIf q2_1 (SV.eq (.pointer (some ⟨g2, 4, none⟩))), svIf q2_1 (SV.eq (.bool (h.wt))), svIf q2_1 (SV.eq (.bool (g.wt == h.wt))), SV.eq (.bool (q2_1 && (g.wt == h.wt))), SV.eq (.bool (q2_1 && (g.wt == h.wt))), svIf (q2_1 && (g.wt == h.wt)) (SV.eq (.pointer (some ⟨g1, 5, none⟩))), svIf (q2_1 && (g.wt == h.wt)) (SV.eq (.bool (g.bk))), svIf (q2_1 && (g.wt == h.wt)) (SV.eq (.pointer (some ⟨g2, 5, none⟩))), svIf (q2_1 && (g.wt == h.wt)) (SV.eq (.bool (h.bk))), svIf (q2_1 && (g.wt == h.wt)) (SV.eq (.bool (g.bk == h.bk))), SV.eq (.bool (q3_1)), SV.eq (.bool (q3_1)), svIf q3_1 (SV.eq (.pointer (some ⟨g1, 6, none⟩))), svIf q3_1 (SV.eq (.int .i64 (g.dn))), svIf q3_1 (SV.eq (.pointer (some ⟨g2, 6, none⟩))), svIf q3_1 (SV.eq (.int .i64 (h.dn))), svIf q3_1 (SV.eq (.bool (g.dn == h.dn))), SV.eq (.bool (q3_1 && (g.dn == h.dn))), SV.eq (.bool (q3_1 && (g.dn == h.dn))), svIf (q3_1 && (g.dn == h.dn)) (SV.eq (.pointer (some ⟨g1, 7, none⟩))), svIf (q3_1 && (g.dn == h.dn)) (SV.eq (.int .i64 (g.un))), svIf (q3_1 && (g.dn == h.dn)) (SV.eq (.pointer (some ⟨g2, 7, none⟩))), svIf (q3_1 && (g.dn == h.dn)) (SV.eq (.int .i64 (h.un))), svIf (q3_1 && (g.dn == h.dn)) (SV.eq (.bool (g.un == h.un))), SV.eq (.bool (q4_1)), SV.eq (.bool (q4_1)), svIf q4_1 (SV.eq (.pointer (some ⟨g1, 8, none⟩))), svIf q4_1 (SV.eq (.int .i64 (g.so))), svIf q4_1 (SV.eq (.pointer (some ⟨g2, 8, none⟩))), svIf q4_1 (SV.eq (.int .i64 (h.so))), svIf q4_1 (SV.eq (.bool (g.so == h.so))), SV.eq (.bool (q4_1 && (g.so == h.so))), SV.eq (.bool (q4_1 && (g.so == h.so))), svIf (q4_1 && (g.so == h.so)) (SV.eq (.pointer (some ⟨g1, 9, none⟩))), svIf (q4_1 && (g.so == h.so)) (SV.eq (.int .i64 (g.sq))), svIf (q4_1 && (g.so == h.so)) (SV.eq (.pointer (some ⟨g2, 9, none⟩))), svIf (q4_1 && (g.so == h.so)) (SV.eq (.int .i64 (h.sq))), svIf (q4_1 && (g.so == h.so)) (SV.eq (.bool (g.sq == h.sq))), SV.eq (.bool (q5_1)), SV.eq (.bool (q5_1))] [([(2, none)], none), ([(5, some 0)], none), ([(3, none)], none), ([(7, some 2)], none), ([(6, some 1), (8, some 3)], none), ([(9, some 4)], none), ([(2, none), (10, some 5)], some (10, true)), ([(11, some 6), (10, some 5)], some (10, true)), ([(3, none), (10, some 5)], some (10, true)), ([(13, some 8), (10, some 5)], some (10, true)), ([(12, some 7), (14, some 9), (10, some 5)], some (10, true)), ([(10, some 5), (15, some 10)], none), ([(16, some 11)], none), ([(2, none), (17, some 12)], some (17, true)), ([(18, some 13), (17, some 12)], some (17, true)), ([(3, none), (17, some 12)], some (17, true)), ([(20, some 15), (17, some 12)], some (17, true)), ([(19, some 14), (21, some 16), (17, some 12)], some (17, true)), ([(17, some 12), (22, some 17)], none), ([(23, some 18)], none), ([(2, none), (24, some 19)], some (24, true)), ([(25, some 20), (24, some 19)], some (24, true)), ([(3, none), (24, some 19)], some (24, true)), ([(27, some 22), (24, some 19)], some (24, true)), ([(26, some 21), (28, some 23), (24, some 19)], some (24, true)), ([(24, some 19), (29, some 24)], none), ([(30, some 25)], none), ([(2, none), (31, some 26)], some (31, true)), ([(32, some 27), (31, some 26)], some (31, true)), ([(3, none), (31, some 26)], some (31, true)), ([(34, some 29), (31, some 26)], some (31, true)), ([(33, some 28), (35, some 30), (31, some 26)], some (31, true)), ([(31, some 26), (36, some 31)], none), ([(37, some 32)], none), ([(2, none), (38, some 33)], some (38, true)), ([(39, some 34), (38, some 33)], some (38, true)), ([(3, none), (38, some 33)], some (38, true)), ([(41, some 36), (38, some 33)], some (38, true)), ([(40, some 35), (42, some 37), (38, some 33)], some (38, true)), ([(38, some 33), (43, some 38)], none), ([(44, some 39)], none), ([(2, none), (45, some 40)], some (45, true)), ([(46, some 41), (45, some 40)], some (45, true)), ([(3, none), (45, some 40)], some (45, true)), ([(48, some 43), (45, some 40)], some (45, true)), ([(47, some 42), (49, some 44), (45, some 40)], some (45, true)), ([(45, some 40), (50, some 45)], none), ([(51, some 46)], none), ([(2, none), (52, some 47)], some (52, true)), ([(53, some 48), (52, some 47)], some (52, true)), ([(3, none), (52, some 47)], some (52, true)), ([(55, some 50), (52, some 47)], some (52, true)), ([(54, some 49), (56, some 51), (52, some 47)], some (52, true)), ([(52, some 47), (57, some 52)], none), ([(58, some 53)], none), ([(2, none), (59, some 54)], some (59, true)), ([(60, some 55), (59, some 54)], some (59, true)), ([(3, none), (59, some 54)], some (59, true)), ([(62, some 57), (59, some 54)], some (59, true)), ([(61, some 56), (63, some 58), (59, some 54)], some (59, true)), ([(59, some 54), (64, some 59)], none), ([(65, some 60)], none), ([(2, none), (66, some 61)], some (66, true)), ([(67, some 62), (66, some 61)], some (66, true)), ([(3, none), (66, some 61)], some (66, true)), ([(69, some 64), (66, some 61)], some (66, true)), ([(68, some 63), (70, some 65), (66, some 61)], some (66, true)), ([(66, some 61), (71, some 66)], none), ([(72, some 67)], none)] 73 69 rfl rfl (by kernel_rfl) NewT.trans (NewT.refl _) (Nat.le_of_ble_eq_true rfl) ⟨?_, ?_, ?_, ?_, ?_, ?_, ?_, ?_, ?_, ?_, ?_, ?_, ?_, ?_, ?_, ?_, ?_, ?_, ?_, ?_, ?_, ?_, ?_, ?_, ?_, ?_, ?_, ?_, ?_, ?_, ?_, ?_, ?_, ?_, ?_, ?_, ?_, ?_, ?_, ?_, ?_, ?_, ?_, ?_, ?_, ?_, ?_, ?_, ?_, ?_, ?_, ?_, ?_, ?_, ?_, ?_, ?_, ?_, ?_, ?_, ?_, ?_, ?_, ?_, ?_, ?_, ?_, ?_, ?_, trivial⟩ ?_
  · exact fun a wx hT hF K hK => rely_wp rfl (opr_fldU0 rfl hF.1 (hK _ _ (NewT.refl _) rfl))
  · exact fun a wx hT hF K hK => rely_wp rfl (opr_ldS (hT.row Rg1.out) (by decide) rfl rfl hF.1 (hK _ _ (NewT.refl _) rfl))
  · exact fun a wx hT hF K hK => rely_wp rfl (opr_fldU0 rfl hF.1 (hK _ _ (NewT.refl _) rfl))
  · exact fun a wx hT hF K hK => rely_wp rfl (opr_ldS (hT.row Rg2.out) (by decide) rfl rfl hF.1 (hK _ _ (NewT.refl _) rfl))
  · exact fun a wx hT hF K hK => rely_wp rfl (opr_cv (SlEq_cv _ _ l m wx ((NewT.trans _ _ _ HM.out hT).pairs HS.out) ((NewT.trans _ _ _ HM.out hT).pairs HSM.out)) rfl Try.func47 (by kernel_rfl) (by kernel_rfl) (evs2 hF.1 hF.2.1) hK)
  · exact fun a wx hT hF K hK => rely_wp rfl (opr_move (.inl rfl) (hK _ _ (NewT.refl _) hF.1))
  · exact fun a wx hT hF K hK => rely_if (rely_gt hF.2.1) (NewT.refl _) hK fun hE hK => opr_fldU1 rfl hF.1 (hK _ _ (NewT.refl _) rfl)
  · exact fun a wx hT hF K hK => rely_if (rely_gt hF.2.1) (NewT.refl _) hK fun hE hK => opr_ldI (hT.row Rg1.out) (by decide) rfl rfl (hF.1 hE) (hK _ _ (NewT.refl _) rfl)
  · exact fun a wx hT hF K hK => rely_if (rely_gt hF.2.1) (NewT.refl _) hK fun hE hK => opr_fldU1 rfl hF.1 (hK _ _ (NewT.refl _) rfl)
  · exact fun a wx hT hF K hK => rely_if (rely_gt hF.2.1) (NewT.refl _) hK fun hE hK => opr_ldI (hT.row Rg2.out) (by decide) rfl rfl (hF.1 hE) (hK _ _ (NewT.refl _) rfl)
  · exact fun a wx hT hF K hK => rely_if (rely_gt hF.2.2.1) (NewT.refl _) hK fun hE hK => opr_cmp (b := g.ph == h.ph) (.inl ⟨rfl, rfl⟩) Try.underlying3 rfl (hF.1 hE) (hF.2.1 hE) (hK _ _ (NewT.refl _) rfl)
  · exact fun a wx hT hF K hK => rely_wp rfl (opr_pick_b rfl hF.1 (fun hb => hK _ _ (NewT.refl _) (pn_and1 Q1_1 (hF.2.1 hb) hb)) (fun hb => hK _ _ (NewT.refl _) (pn_and0 Q1_1 hb)))
  · exact fun a wx hT hF K hK => rely_wp rfl (opr_move (.inl rfl) (hK _ _ (NewT.refl _) hF.1))
  · exact fun a wx hT hF K hK => rely_if (rely_gt hF.2.1) (NewT.refl _) hK fun hE hK => opr_fldU2 rfl hF.1 (hK _ _ (NewT.refl _) rfl)
  · exact fun a wx hT hF K hK => rely_if (rely_gt hF.2.1) (NewT.refl _) hK fun hE hK => opr_ldI (hT.row Rg1.out) (by decide) rfl rfl (hF.1 hE) (hK _ _ (NewT.refl _) rfl)
  · exact fun a wx hT hF K hK => rely_if (rely_gt hF.2.1) (NewT.refl _) hK fun hE hK => opr_fldU2 rfl hF.1 (hK _ _ (NewT.refl _) rfl)
  · exact fun a wx hT hF K hK => rely_if (rely_gt hF.2.1) (NewT.refl _) hK fun hE hK => opr_ldI (hT.row Rg2.out) (by decide) rfl rfl (hF.1 hE) (hK _ _ (NewT.refl _) rfl)
  · exact fun a wx hT hF K hK => rely_if (rely_gt hF.2.2.1) (NewT.refl _) hK fun hE hK => opr_cmp (b := g.at_ == h.at_) (.inl ⟨rfl, rfl⟩) Try.underlying3 rfl (hF.1 hE) (hF.2.1 hE) (hK _ _ (NewT.refl _) rfl)
  · exact fun a wx hT hF K hK => rely_wp rfl (opr_pick_b rfl hF.1 (fun hb => hK _ _ (NewT.refl _) (pk_and1 (hF.2.1 hb) hb)) (fun hb => hK _ _ (NewT.refl _) (pk_and0 hb)))
  · exact fun a wx hT hF K hK => rely_wp rfl (opr_move (.inl rfl) (hK _ _ (NewT.refl _) hF.1))
  · exact fun a wx hT hF K hK => rely_if (rely_gt hF.2.1) (NewT.refl _) hK fun hE hK => opr_fldU3 rfl hF.1 (hK _ _ (NewT.refl _) rfl)
  · exact fun a wx hT hF K hK => rely_if (rely_gt hF.2.1) (NewT.refl _) hK fun hE hK => opr_ldI (hT.row Rg1.out) (by decide) rfl rfl (hF.1 hE) (hK _ _ (NewT.refl _) rfl)
  · exact fun a wx hT hF K hK => rely_if (rely_gt hF.2.1) (NewT.refl _) hK fun hE hK => opr_fldU3 rfl hF.1 (hK _ _ (NewT.refl _) rfl)
  · exact fun a wx hT hF K hK => rely_if (rely_gt hF.2.1) (NewT.refl _) hK fun hE hK => opr_ldI (hT.row Rg2.out) (by decide) rfl rfl (hF.1 hE) (hK _ _ (NewT.refl _) rfl)
  · exact fun a wx hT hF K hK => rely_if (rely_gt hF.2.2.1) (NewT.refl _) hK fun hE hK => opr_cmp (b := g.tr == h.tr) (.inl ⟨rfl, rfl⟩) Try.underlying3 rfl (hF.1 hE) (hF.2.1 hE) (hK _ _ (NewT.refl _) rfl)
  · exact fun a wx hT hF K hK => rely_wp rfl (opr_pick_b rfl hF.1 (fun hb => hK _ _ (NewT.refl _) (pn_and1 Q2_1 (hF.2.1 hb) hb)) (fun hb => hK _ _ (NewT.refl _) (pn_and0 Q2_1 hb)))
  · exact fun a wx hT hF K hK => rely_wp rfl (opr_move (.inl rfl) (hK _ _ (NewT.refl _) hF.1))
  · exact fun a wx hT hF K hK => rely_if (rely_gt hF.2.1) (NewT.refl _) hK fun hE hK => opr_fldU4 rfl hF.1 (hK _ _ (NewT.refl _) rfl)
  · exact fun a wx hT hF K hK => rely_if (rely_gt hF.2.1) (NewT.refl _) hK fun hE hK => opr_ldQ (hT.row Rg1.out) (by decide) rfl rfl (hF.1 hE) (hK _ _ (NewT.refl _) rfl)
  · exact fun a wx hT hF K hK => rely_if (rely_gt hF.2.1) (NewT.refl _) hK fun hE hK => opr_fldU4 rfl hF.1 (hK _ _ (NewT.refl _) rfl)
  · exact fun a wx hT hF K hK => rely_if (rely_gt hF.2.1) (NewT.refl _) hK fun hE hK => opr_ldQ (hT.row Rg2.out) (by decide) rfl rfl (hF.1 hE) (hK _ _ (NewT.refl _) rfl)
  · exact fun a wx hT hF K hK => rely_if (rely_gt hF.2.2.1) (NewT.refl _) hK fun hE hK => opr_eqlQ (b := g.wt == h.wt) (rfl) rfl (hF.1 hE) (hF.2.1 hE) (hK _ _ (NewT.refl _) rfl)
  · exact fun a wx hT hF K hK => rely_wp rfl (opr_pick_b rfl hF.1 (fun hb => hK _ _ (NewT.refl _) (pk_and1 (hF.2.1 hb) hb)) (fun hb => hK _ _ (NewT.refl _) (pk_and0 hb)))
  · exact fun a wx hT hF K hK => rely_wp rfl (opr_move (.inl rfl) (hK _ _ (NewT.refl _) hF.1))
  · exact fun a wx hT hF K hK => rely_if (rely_gt hF.2.1) (NewT.refl _) hK fun hE hK => opr_fldU5 rfl hF.1 (hK _ _ (NewT.refl _) rfl)
  · exact fun a wx hT hF K hK => rely_if (rely_gt hF.2.1) (NewT.refl _) hK fun hE hK => opr_ldQ (hT.row Rg1.out) (by decide) rfl rfl (hF.1 hE) (hK _ _ (NewT.refl _) rfl)
  · exact fun a wx hT hF K hK => rely_if (rely_gt hF.2.1) (NewT.refl _) hK fun hE hK => opr_fldU5 rfl hF.1 (hK _ _ (NewT.refl _) rfl)
  · exact fun a wx hT hF K hK => rely_if (rely_gt hF.2.1) (NewT.refl _) hK fun hE hK => opr_ldQ (hT.row Rg2.out) (by decide) rfl rfl (hF.1 hE) (hK _ _ (NewT.refl _) rfl)
  · exact fun a wx hT hF K hK => rely_if (rely_gt hF.2.2.1) (NewT.refl _) hK fun hE hK => opr_eqlQ (b := g.bk == h.bk) (rfl) rfl (hF.1 hE) (hF.2.1 hE) (hK _ _ (NewT.refl _) rfl)
  · exact fun a wx hT hF K hK => rely_wp rfl (opr_pick_b rfl hF.1 (fun hb => hK _ _ (NewT.refl _) (pn_and1 Q3_1 (hF.2.1 hb) hb)) (fun hb => hK _ _ (NewT.refl _) (pn_and0 Q3_1 hb)))
  · exact fun a wx hT hF K hK => rely_wp rfl (opr_move (.inl rfl) (hK _ _ (NewT.refl _) hF.1))
  · exact fun a wx hT hF K hK => rely_if (rely_gt hF.2.1) (NewT.refl _) hK fun hE hK => opr_fldU6 rfl hF.1 (hK _ _ (NewT.refl _) rfl)
  · exact fun a wx hT hF K hK => rely_if (rely_gt hF.2.1) (NewT.refl _) hK fun hE hK => opr_ldI (hT.row Rg1.out) (by decide) rfl rfl (hF.1 hE) (hK _ _ (NewT.refl _) rfl)
  · exact fun a wx hT hF K hK => rely_if (rely_gt hF.2.1) (NewT.refl _) hK fun hE hK => opr_fldU6 rfl hF.1 (hK _ _ (NewT.refl _) rfl)
  · exact fun a wx hT hF K hK => rely_if (rely_gt hF.2.1) (NewT.refl _) hK fun hE hK => opr_ldI (hT.row Rg2.out) (by decide) rfl rfl (hF.1 hE) (hK _ _ (NewT.refl _) rfl)
  · exact fun a wx hT hF K hK => rely_if (rely_gt hF.2.2.1) (NewT.refl _) hK fun hE hK => opr_cmp (b := g.dn == h.dn) (.inl ⟨rfl, rfl⟩) Try.underlying3 rfl (hF.1 hE) (hF.2.1 hE) (hK _ _ (NewT.refl _) rfl)
  · exact fun a wx hT hF K hK => rely_wp rfl (opr_pick_b rfl hF.1 (fun hb => hK _ _ (NewT.refl _) (pk_and1 (hF.2.1 hb) hb)) (fun hb => hK _ _ (NewT.refl _) (pk_and0 hb)))
  · exact fun a wx hT hF K hK => rely_wp rfl (opr_move (.inl rfl) (hK _ _ (NewT.refl _) hF.1))
  · exact fun a wx hT hF K hK => rely_if (rely_gt hF.2.1) (NewT.refl _) hK fun hE hK => opr_fldU7 rfl hF.1 (hK _ _ (NewT.refl _) rfl)
  · exact fun a wx hT hF K hK => rely_if (rely_gt hF.2.1) (NewT.refl _) hK fun hE hK => opr_ldI (hT.row Rg1.out) (by decide) rfl rfl (hF.1 hE) (hK _ _ (NewT.refl _) rfl)
  · exact fun a wx hT hF K hK => rely_if (rely_gt hF.2.1) (NewT.refl _) hK fun hE hK => opr_fldU7 rfl hF.1 (hK _ _ (NewT.refl _) rfl)
  · exact fun a wx hT hF K hK => rely_if (rely_gt hF.2.1) (NewT.refl _) hK fun hE hK => opr_ldI (hT.row Rg2.out) (by decide) rfl rfl (hF.1 hE) (hK _ _ (NewT.refl _) rfl)
  · exact fun a wx hT hF K hK => rely_if (rely_gt hF.2.2.1) (NewT.refl _) hK fun hE hK => opr_cmp (b := g.un == h.un) (.inl ⟨rfl, rfl⟩) Try.underlying3 rfl (hF.1 hE) (hF.2.1 hE) (hK _ _ (NewT.refl _) rfl)
  · exact fun a wx hT hF K hK => rely_wp rfl (opr_pick_b rfl hF.1 (fun hb => hK _ _ (NewT.refl _) (pn_and1 Q4_1 (hF.2.1 hb) hb)) (fun hb => hK _ _ (NewT.refl _) (pn_and0 Q4_1 hb)))
  · exact fun a wx hT hF K hK => rely_wp rfl (opr_move (.inl rfl) (hK _ _ (NewT.refl _) hF.1))
  · exact fun a wx hT hF K hK => rely_if (rely_gt hF.2.1) (NewT.refl _) hK fun hE hK => opr_fldU8 rfl hF.1 (hK _ _ (NewT.refl _) rfl)
  · exact fun a wx hT hF K hK => rely_if (rely_gt hF.2.1) (NewT.refl _) hK fun hE hK => opr_ldI (hT.row Rg1.out) (by decide) rfl rfl (hF.1 hE) (hK _ _ (NewT.refl _) rfl)
  · exact fun a wx hT hF K hK => rely_if (rely_gt hF.2.1) (NewT.refl _) hK fun hE hK => opr_fldU8 rfl hF.1 (hK _ _ (NewT.refl _) rfl)
  · exact fun a wx hT hF K hK => rely_if (rely_gt hF.2.1) (NewT.refl _) hK fun hE hK => opr_ldI (hT.row Rg2.out) (by decide) rfl rfl (hF.1 hE) (hK _ _ (NewT.refl _) rfl)
  · exact fun a wx hT hF K hK => rely_if (rely_gt hF.2.2.1) (NewT.refl _) hK fun hE hK => opr_cmp (b := g.so == h.so) (.inl ⟨rfl, rfl⟩) Try.underlying3 rfl (hF.1 hE) (hF.2.1 hE) (hK _ _ (NewT.refl _) rfl)
  · exact fun a wx hT hF K hK => rely_wp rfl (opr_pick_b rfl hF.1 (fun hb => hK _ _ (NewT.refl _) (pk_and1 (hF.2.1 hb) hb)) (fun hb => hK _ _ (NewT.refl _) (pk_and0 hb)))
  · exact fun a wx hT hF K hK => rely_wp rfl (opr_move (.inl rfl) (hK _ _ (NewT.refl _) hF.1))
  · exact fun a wx hT hF K hK => rely_if (rely_gt hF.2.1) (NewT.refl _) hK fun hE hK => opr_fldU9 rfl hF.1 (hK _ _ (NewT.refl _) rfl)
  · exact fun a wx hT hF K hK => rely_if (rely_gt hF.2.1) (NewT.refl _) hK fun hE hK => opr_ldI (hT.row Rg1.out) (by decide) rfl rfl (hF.1 hE) (hK _ _ (NewT.refl _) rfl)
  · exact fun a wx hT hF K hK => rely_if (rely_gt hF.2.1) (NewT.refl _) hK fun hE hK => opr_fldU9 rfl hF.1 (hK _ _ (NewT.refl _) rfl)
  · exact fun a wx hT hF K hK => rely_if (rely_gt hF.2.1) (NewT.refl _) hK fun hE hK => opr_ldI (hT.row Rg2.out) (by decide) rfl rfl (hF.1 hE) (hK _ _ (NewT.refl _) rfl)
  · exact fun a wx hT hF K hK => rely_if (rely_gt hF.2.2.1) (NewT.refl _) hK fun hE hK => opr_cmp (b := g.sq == h.sq) (.inl ⟨rfl, rfl⟩) Try.underlying3 rfl (hF.1 hE) (hF.2.1 hE) (hK _ _ (NewT.refl _) rfl)
  · exact fun a wx hT hF K hK => rely_wp rfl (opr_pick_b rfl hF.1 (fun hb => hK _ _ (NewT.refl _) (pn_and1 Q5_1 (hF.2.1 hb) hb)) (fun hb => hK _ _ (NewT.refl _) (pn_and0 Q5_1 hb)))
  · exact fun a wx hT hF K hK => rely_wp rfl (opr_move (.inr rfl) (hK _ _ (NewT.refl _) hF.1))
  · intro w1 k1
    iterate 6 (intro u h; obtain rfl := Eq.symm (h (by simp)); clear h)
    iterate 5 (intro _ _)
    iterate 2 (intro u h; obtain rfl := Eq.symm (h (by simp)); clear h)
    iterate 5 (intro _ _)
    iterate 2 (intro u h; obtain rfl := Eq.symm (h (by simp)); clear h)
    iterate 5 (intro _ _)
    iterate 2 (intro u h; obtain rfl := Eq.symm (h (by simp)); clear h)
    iterate 5 (intro _ _)
    iterate 2 (intro u h; obtain rfl := Eq.symm (h (by simp)); clear h)
    iterate 5 (intro _ _)
    iterate 2 (intro u h; obtain rfl := Eq.symm (h (by simp)); clear h)
    iterate 5 (intro _ _)
    iterate 2 (intro u h; obtain rfl := Eq.symm (h (by simp)); clear h)
    iterate 5 (intro _ _)
    iterate 2 (intro u h; obtain rfl := Eq.symm (h (by simp)); clear h)
    iterate 5 (intro _ _)
    iterate 2 (intro u h; obtain rfl := Eq.symm (h (by simp)); clear h)
    iterate 5 (intro _ _)
    iterate 2 (intro u h; obtain rfl := Eq.symm (h (by simp)); clear h)
    subst Q5_1 Q4_1 Q3_1 Q2_1 Q1_1
    refine relyEnd_nil rfl ?_
    refine wpList_end rfl ?_
    simp only [Act.put, List.setIfInBounds_toArray, List.set_cons_zero, List.set_cons_succ]
    go_simp
    replace Rg1 := Lib.hid (k1.row Rg1.out)
    replace Rg2 := Lib.hid (k1.row Rg2.out)
    replace HM := Lib.hid (NewT.trans _ _ _ HM.out k1)
    clear k1
    go_wp2
    go_ret
    exact ⟨_, rfl, HM.out, rfl⟩
end Go.Proofs.Ytilmeffmdgcblaa
