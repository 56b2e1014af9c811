/- Rows of hashes of the own: steps that write them alone, appends. -/
import Derived.Test.YtcfogkimjbgjgaaDoorMb
import Derived.Test.YtcfogkimjbgjgaaDoorMa
import Derived.Deep.Cut
import Derived.Lib.SliceRun
import Derived.Laws.CopyOwn
import Derived.Laws.IdiomCopy
set_option linter.all false
namespace Go.Proofs.YtcfogkimjbgjgaaDoor
open Go Go.RowKit
set_option maxRecDepth 8000
set_option linter.all false
/-- A step that writes block g, and blocks from B on, alone. -/
structure FT (g B : Nat) (w w' : World) : Prop where
  below : Below g w w'
  keep : ∀ k o, k < B → k ≠ g → w.heap[k]? = some o → o.isCells = true → w'.heap[k]? = some o
theorem FT.trans {g B : Nat} {a b c : World} (h : FT g B a b) (k : FT g B b c) : FT g B a c := ⟨h.below.trans k.below, fun i o h1 h2 h3 h4 => k.keep i o h1 h2 (h.keep i o h1 h2 h3 h4) h4⟩
theorem FT.of_rt {g B : Nat} {w w' : World} (h : RT g w w') : FT g B w w' := ⟨h.below, fun k o _ hk ho hc => h.keep.2 k o (by simpa using hk) ho hc⟩
theorem FT.new {g B : Nat} {w w' : World} (hg : g < w.heap.size) (h : NewT w w') : FT g B w w' := FT.of_rt (RT.new hg h)
theorem FT.row {g B : Nat} {w w' : World} (h : FT g B w w') {b n : Nat} {t : TypeId} {f : Nat → Value} (hb : b < B) (hne : b ≠ g) (hr : w.rowIs b t n f) : w'.rowIs b t n f := by
  obtain ⟨c, hc, hs, hf⟩ := hr
  exact ⟨c, h.keep _ _ hb hne hc rfl, hs, hf⟩
theorem FT.below_of {g B w0 : Nat} {w w' : World} (h : FT g B w w') (hg : w0 ≤ g) : Below w0 w w' := h.below.mono hg
/-- Blocks that came behind W are written, and R: to whoever looks from W on, a step that writes R alone. -/
theorem RT.late2 {R g : Nat} {W w w' : World} (h : RT R W w) (hg : W.heap.size ≤ g) (hR : R < W.heap.size) (hk : RT g w w') : RT R W w' :=
  ⟨h.below.trans (hk.below.mono (by omega)), Nat.le_trans h.keep.1 hk.keep.1, fun k o hk' ho hc => hk.keep.2 k o (by have := (Array.getElem?_eq_some_iff.1 ho).1; simp; omega) (h.keep.2 k o hk' ho hc) hc⟩
theorem OwnH.one {W : World} {B : Nat} {v : Value} {l : List Hs} (h : OwnH W B v l) : v.oneCell' = true := by obtain ⟨A, c, rfl, _⟩ := h.cap; rfl
theorem OwnH.rt {w w' : World} {g B : Nat} {v : Value} {l : List Hs} (h : OwnH w B v l) (hg : g < B) (hR : RT g w w') : OwnH w' B v l := by
  refine ⟨h.1, ?_⟩
  rcases h.2 with h2 | ⟨b, cap, cur, hv, hb, hh, r⟩
  · exact .inl h2
  · exact .inr ⟨b, cap, cur, hv, hb, hR.keep.2 b _ (by simp; omega) hh rfl, r⟩
theorem RdH.keep {w w' : World} {v : Value} {l : List Hs} (hr : RdH w v l) (hk : ∀ b o, w.heap[b]? = some o → o.isCells = true → (∃ A n c, v = .slice (some A) n c ∧ A.block = b) → w'.heap[b]? = some o) : RdH w' v l := by
  obtain ⟨A, cap, hv, h1, h2, h3⟩ := hr
  refine ⟨A, cap, hv, h1, h2, fun h0 => ?_⟩
  obtain ⟨b, o, hA, hc⟩ := h3 h0
  refine ⟨b, o, hA, fun i d hd j hj => ?_⟩
  have hcell := hc i d hd j hj
  obtain ⟨ob, ho, hic⟩ : ∃ ob, w.heap[b]? = some ob ∧ ob.isCells = true := by
    unfold World.cell? at hcell
    cases ho : w.heap[b]? with
    | none => simp [ho] at hcell
    | some ob => exact ⟨ob, rfl, by cases ob <;> simp_all [Obj.isCells]⟩
  rw [World.cell?_of_block ((hk b ob ho hic ⟨_, _, _, by rw [hv, hA], rfl⟩).trans ho.symm)]
  exact hcell
theorem info_hs : (Tryd.prog.info? 22).map (·.size) = some 1 := by kernel_rfl
theorem info_hs0 : (Tryd.prog.info? 22).map (·.size) = some (0 + 1) := by kernel_rfl
section
variable {a : Act} {w : World} {o : Oper} {K : Act → World → Prop} {Q : Exit → Act → World → Prop} {x y : Operand} {g o0 n : Nat} {t' : TypeId} {F : Nat → Value} {v : Value}
theorem opr_ldHs (hr : w.rowIs g t' n F) (hn : o0 < n) (hv : F o0 = v) (ho : o.op = .load 22 x) (hx : a.eval x = .pointer (some ⟨g, o0, none⟩)) (h : K (a.put o.dst v) w) : o.wp Tryd.prog a w K Q :=
  opr_ld1 Tryd.underlying22 rfl ho hx (by rw [hr.cell hn, hv]) h
theorem opr_toV {A : Option Addr} {n c k : Nat} (hk : k ≤ n) (hn : n ≤ c) (ho : o.op = .slice 22 x none (some y) none) (hx : a.eval x = .slice A n c) (hy : a.eval y = .int .i64 (k : Int)) (h : K (a.put o.dst (.slice A k c)) w) : o.wp Tryd.prog a w K Q := by
  obtain ⟨dst, op, type, pos, after, guard⟩ := o
  simp only at ho
  subst ho
  exact opr_val (s := Instr.sliceAt 22 (a.eval x) none (some (a.eval y)) none) (by simp [execOp]) (by rw [hx, hy]; simp [Instr.sliceAt, run_underlying Tryd.underlying22]; exact run_toH w hk hn) h
end
/-- An append onto an own row either stays in its block or makes a new one alone. -/
theorem run_appH_two {W : World} {B : Nat} {v u : Value} {l m : List Hs} (h : OwnH W B v l) (hr : RdH W u m) (hm : 0 < m.length) (hn : l.length + m.length ≤ 1000000) (hB : B ≤ W.heap.size) (ty : TypeId) :
    ∃ v' w', (Builtin.append_ #[22, 22] ty #[v, u]).run Tryd.prog W = .ok v' w' ∧ OwnH w' B v' (l ++ m) ∧ W.grownBy w' v.ownBlock ∧ (NewT W w' ∨ ∃ g c, v = .slice (some ⟨g, 0, none⟩) l.length c ∧ v' = .slice (some ⟨g, 0, none⟩) (l ++ m).length c) := by
  obtain ⟨v', w', h1, h2, h3⟩ := run_appH h hr hn hB ty
  refine ⟨v', w', h1, h2, h3, ?_⟩
  obtain ⟨i0, hi, hz0, hz1, hz2⟩ := info_parts infoH
  have hr0 := hr
  obtain ⟨A, cap, rfl, k1, k2, k3⟩ := hr
  obtain ⟨b, o, rfl, _⟩ := k3 hm
  have hz3 : (hcs m).length = m.length * i0.size := by rw [hz1]; exact hcs_length m
  rcases h.2 with ⟨rfl, h0⟩ | ⟨g, c, cur, rfl, hb, hg, hnc, hcm, hs, ht⟩
  · have hl : l = [] := List.eq_nil_of_length_eq_zero h0
    subst hl
    have hrun := run_append_nil (P := Tryd.prog) W 22 ty 26 i0 _ Tryd.underlying22 hi hz0 ⟨b, o, none⟩ m.length cap (hcs m) hz3 hr0.news (by omega) (by simp at hn; omega) (by simp at hn; rw [hz2]; omega)
    rw [h1] at hrun
    injection hrun with _ e
    subst e
    exact .inl (NewT.trans _ _ _ (NewT.drew W) (NewT.alloc _ _))
  · by_cases hroom : l.length + m.length ≤ c
    · have hrun := run_append_room (P := Tryd.prog) W 22 ty 26 i0 Tryd.underlying22 hi g l.length c cur hg ⟨b, o, none⟩ m.length cap (hcs m) hz3 hr0.news (hcs_one_cell m) hroom (by rw [hcs_length, hs, hz1]; omega)
      rw [h1] at hrun
      injection hrun with e _
      exact .inr ⟨g, c, rfl, by rw [List.length_append]; exact e⟩
    · have hrun := run_append_grow (P := Tryd.prog) W 22 ty 26 i0 _ Tryd.underlying22 hi hz0 ⟨g, 0, none⟩ l.length c (hcs l) (by rw [hz1]; exact hcs_length l) (h.cells (g := g) rfl) ⟨b, o, none⟩ m.length cap (hcs m) hz3 hr0.news (by omega) (by omega) (growslice_fits (by omega) (by rw [hz2]; omega))
      rw [h1] at hrun
      injection hrun with _ e
      subst e
      exact .inl (NewT.trans _ _ _ (NewT.drew W) (NewT.alloc _ _))
/-- A step of a region that appends onto v, which reads as S, what makes it read as L. -/
structure AT (B : Nat) (v : Value) (S L : List Hs) (w w' : World) : Prop where
  below : Below B w w'
  keep : KeepBut v.ownBlock.toList w w'
  old : OwnH w B v S → OwnH w' B v S
  new : ∀ v', OwnH w B v' L → OwnH w' B v' L
theorem AT.trans {B : Nat} {v : Value} {S L : List Hs} (a b c : World) (h : AT B v S L a b) (k : AT B v S L b c) : AT B v S L a c := ⟨h.below.trans k.below, h.keep.trans k.keep, fun x => k.old (h.old x), fun v' x => k.new v' (h.new v' x)⟩
theorem AT.of_new {B : Nat} {v : Value} {S L : List Hs} {w w' : World} (hB : B ≤ w.heap.size) (h : NewT w w') : AT B v S L w w' := ⟨h.out.mono hB, KeepBut.below h, fun x => x.new h, fun _ x => x.new h⟩
theorem AT.drew {B : Nat} {v : Value} {S L : List Hs} (w : World) : AT B v S L w w.drew := ⟨(Below.refl _ w).drew, KeepBut.drew w, fun x => x.keep fun _ _ => rfl, fun _ x => x.keep fun _ _ => rfl⟩
theorem AT.refl {B : Nat} {v : Value} {S L : List Hs} (w : World) : AT B v S L w w := ⟨Below.refl _ w, KeepBut.refl _ w, fun x => x, fun _ x => x⟩
theorem AT.app {B : Nat} {v v' : Value} {S m : List Hs} {w w' : World} (h : OwnH w B v S) (hm : 0 < m.length) (h' : OwnH w' B v' (S ++ m)) (hg : w.grownBy w' v.ownBlock) (hB : B ≤ w.heap.size) (two : NewT w w' ∨ ∃ g c, v = .slice (some ⟨g, 0, none⟩) S.length c ∧ v' = .slice (some ⟨g, 0, none⟩) (S ++ m).length c) : AT B v S (S ++ m) w w' := by
  have hk : KeepBut v.ownBlock.toList w w' := keepBut_grown hg fun k hk => by simp [hk]
  rcases two with hN | ⟨g, c, hv, hv'⟩
  · exact ⟨hN.out.mono hB, hk, fun x => x.new hN, fun _ x => x.new hN⟩
  · refine ⟨(Below.refl _ w).grown hg hB (fun k e => (h.lt k e).1), hk, fun _ => ?_, fun v'' h'' => ?_⟩
    · rw [hv'] at h'
      have := h'.take (k := S.length) (by simp) (by simp; omega)
      rw [List.take_left] at this
      rw [hv]; exact this
    · by_cases e : v''.ownBlock = some g
      · have e2 : v'' = v' := by
          rcases h''.2 with ⟨rfl, _⟩ | ⟨g2, c2, cur2, rfl, _, hh2, _, _, hs2, _⟩
          · cases e
          · simp [Value.ownBlock] at e
            subst e
            rw [hv] at h
            rcases h.2 with ⟨h3, _⟩ | ⟨g3, c3, cur3, h3, _, hh3, _, _, hs3, _⟩
            · cases h3
            · cases h3
              rw [hh2] at hh3
              cases hh3
              have : c2 = c := by omega
              rw [hv', this]
        rw [e2]; exact h'
      · exact h''.keep fun k hkk => hg.block k (h''.lt k hkk).2 (by rw [hv]; intro e2; simp [Value.ownBlock] at e2; subst e2; exact e hkk)
end Go.Proofs.YtcfogkimjbgjgaaDoor
/- Boxes of one value; what calls hand back together: rows, flags. -/
namespace Go.Proofs.YtcfogkimjbgjgaaDoor
open Go Go.RowKit
set_option maxRecDepth 8000
set_option linter.all false
theorem rowIs_one (w : World) (t : TypeId) (v : Value) : (w.alloc (.cells #[v] t)).rowIs w.heap.size t 1 (fun _ => v) := rowIs_box w t 1 (fun _ => v)
section
variable {P : Program} {w : World} {fn : Func} {tmps : Array Value}
theorem run_ldV_row {b n : Nat} {t ty : TypeId} {d : TypeDesc} {f : Nat → Value} (h : w.rowIs b t n f) (hu : P.underlying ty = some d) (hd : d.isRow = true) (hi : (P.info? ty).map (·.size) = some n) : (loadVar ty ⟨b, 0, none⟩).run P w = .ok (.agg (rowA n f)) w := by
  simpa using run_loadVar_mid (P := P) w b 0 ty (rowA n f).toList d (rangeAt_row h) hu hd (by rw [hi, rowA_toList]; simp)
theorem run_ldV_one {b : Nat} {t ty : TypeId} {v : Value} {d : TypeDesc} (h : w.rowIs b t 1 (fun _ => v)) (hu : P.underlying ty = some d) (hd : d.isRow = false) : (loadVar ty ⟨b, 0, none⟩).run P w = .ok v w := by
  have ha : (isAgg ty).run P w = .ok false w := by
    unfold isAgg
    rw [Sem.run_bind, run_underlying hu w]
    cases d <;> first | rfl | cases hd
  have hc := h.cell (i := 0) (by omega)
  simp only [loadVar, Sem.run_bind, ha, Result.andThen_ok, Bool.false_eq_true, if_false]
  simp [run_load, hc]
/-- A row, and what lies in a variable. -/
theorem results_rv {p q : Tmp} {tp tq t t' : TypeId} {d d' : TypeDesc} {n b b' : Nat} {f : Nat → Value} {v : Value} (hf : fn.results = #[.cell p tp, .cell q tq]) (hp : tmps.getD p undef = .pointer (some ⟨b, 0, none⟩)) (hq : tmps.getD q undef = .pointer (some ⟨b', 0, none⟩))
    (h : w.rowIs b t n f) (h' : w.rowIs b' t' 1 (fun _ => v)) (hu : P.underlying tp = some d) (hd : d.isRow = true) (hi : (P.info? tp).map (·.size) = some n) (hu' : P.underlying tq = some d') (hd' : d'.isRow = false) : (results fn tmps).run P w = .ok (.tuple #[.agg (rowA n f), v]) w := by
  have e1 := run_ldV_row (P := P) h hu hd hi
  have e2 := run_ldV_one (P := P) h' hu' hd'
  have hp' : tmps[p]?.getD undef = .pointer (some ⟨b, 0, none⟩) := by simpa using hp
  have hq' : tmps[q]?.getD undef = .pointer (some ⟨b', 0, none⟩) := by simpa using hq
  simp [results, hf, hp', hq', asAddr, e1, e2]
/-- A row, and a value of the frame. -/
theorem results_rt {p u : Tmp} {tp t : TypeId} {d : TypeDesc} {n b : Nat} {f : Nat → Value} {v : Value} (hf : fn.results = #[.cell p tp, .tmp u]) (hp : tmps.getD p undef = .pointer (some ⟨b, 0, none⟩)) (hv : tmps.getD u undef = v)
    (h : w.rowIs b t n f) (hu : P.underlying tp = some d) (hd : d.isRow = true) (hi : (P.info? tp).map (·.size) = some n) : (results fn tmps).run P w = .ok (.tuple #[.agg (rowA n f), v]) w := by
  have e1 := run_ldV_row (P := P) h hu hd hi
  have hp' : tmps[p]?.getD undef = .pointer (some ⟨b, 0, none⟩) := by simpa using hp
  have hv' : tmps[u]?.getD undef = v := by simpa using hv
  simp [results, hf, hp', hv', asAddr, e1]
/-- Two rows, and a value of the frame. -/
theorem results_rrt {p q u : Tmp} {tp t t' : TypeId} {d : TypeDesc} {n b b' : Nat} {f f' : Nat → Value} {v : Value} (hf : fn.results = #[.cell p tp, .cell q tp, .tmp u]) (hp : tmps.getD p undef = .pointer (some ⟨b, 0, none⟩)) (hq : tmps.getD q undef = .pointer (some ⟨b', 0, none⟩)) (hv : tmps.getD u undef = v)
    (h : w.rowIs b t n f) (h' : w.rowIs b' t' n f') (hu : P.underlying tp = some d) (hd : d.isRow = true) (hi : (P.info? tp).map (·.size) = some n) : (results fn tmps).run P w = .ok (.tuple #[.agg (rowA n f), .agg (rowA n f'), v]) w := by
  have e1 := run_ldV_row (P := P) h hu hd hi
  have e2 := run_ldV_row (P := P) h' hu hd hi
  have hp' : tmps[p]?.getD undef = .pointer (some ⟨b, 0, none⟩) := by simpa using hp
  have hq' : tmps[q]?.getD undef = .pointer (some ⟨b', 0, none⟩) := by simpa using hq
  have hv' : tmps[u]?.getD undef = v := by simpa using hv
  simp [results, hf, hp', hq', hv', asAddr, e1, e2]
variable {a : Act} {o : Oper} {K : Act → World → Prop} {Q : Exit → Act → World → Prop}
/-- A closure is made. -/
theorem opr_mkf {fid : Nat} {xs : Array Operand} {cap : Array Value} (ho : o.op = .makeFunc (.func fid) #[] xs) (hx : xs.map a.eval = cap) (h : K (a.put o.dst (.func (.func fid) #[] cap)) w) : o.wp P a w K Q := by
  obtain ⟨dst, op, type, pos, after, guard⟩ := o
  simp only at ho
  subst ho
  subst hx
  exact opr_val (s := Instr.makeFunc (.func fid) #[] (xs.map a.eval)) (by simp [execOp]) rfl h
/-- One of the values that a call hands back together. -/
theorem opr_ext {k : Nat} {x : Operand} {vs : Array Value} {v : Value} (ho : o.op = .extract x k) (hx : a.eval x = .tuple vs) (hv : vs[k]? = some v) (h : K (a.put o.dst v) w) : o.wp P a w K Q := by
  obtain ⟨dst, op, type, pos, after, guard⟩ := o
  simp only at ho
  subst ho
  exact opr_val (s := Instr.extract (a.eval x) k) (by simp [execOp]) (by rw [hx]; simp [Instr.extract, hv]) h
end
end Go.Proofs.YtcfogkimjbgjgaaDoor
/- Records, on lists: what Right looks at (a range, and what a kind has alone), which records are the same; that these come to R0's words. -/
namespace Go.Proofs.YtcfogkimjbgjgaaDoor
open Go
set_option maxRecDepth 8000
set_option linter.all false

def stepsOk (l : List (Int × Int)) : Bool := inR l.length 1 6 && l.all stepOk
def inRg (x : Rc) : Bool :=
  if x.kind = 1 then (inR x.saga 0 11 && stepsOk x.steps) && decide ((x.data.length : Int) ≤ 60)
  else if x.kind = 3 then (!((!inR x.part 0 3) || !inR x.epoch 0 400)) && (((inR x.saga 0 11 && inR x.seq 1 400) && inR x.step 0 5) && inR x.tr 1 9)
  else if x.kind = 2 ∨ x.kind = 4 then ((inR x.saga 0 11 && inR x.seq 1 400) && inR x.step 0 5) && inR x.tr 1 9
  else if x.kind = 5 then (inR x.saga 0 11 && inR x.seq 1 400) && inR x.nd 2 4
  else if x.kind = 6 then inR x.part 0 3 && inR x.epoch 1 400
  else false
/-- The record with nothing. -/
def zR : Rc := ⟨0, 0, 0, 0, 0, false, false, 0, 0, 0, fun _ => 0, [], [], fun _ => 0, false, fun _ => 0⟩
def onlyR (x : Rc) : Rc :=
  if x.kind = 1 then (if x.gone then { zR with kind := x.kind, saga := x.saga, steps := x.steps, gone := x.gone, com := x.com } else { zR with kind := x.kind, saga := x.saga, steps := x.steps, gone := x.gone, data := x.data, salt := x.salt })
  else if x.kind = 3 then { zR with kind := x.kind, good := x.good, part := x.part, epoch := x.epoch, tag := x.tag, saga := x.saga, seq := x.seq, step := x.step, tr := x.tr, back := x.back }
  else if x.kind = 2 ∨ x.kind = 4 then { zR with kind := x.kind, saga := x.saga, seq := x.seq, step := x.step, tr := x.tr, back := x.back }
  else if x.kind = 5 then { zR with kind := x.kind, saga := x.saga, seq := x.seq, nd := x.nd }
  else if x.kind = 6 then { zR with kind := x.kind, part := x.part, epoch := x.epoch }
  else { zR with kind := x.kind }
/-- The same all through, in Same's order. -/
def sameB (x y : Rc) : Bool :=
  ((((((((((((((((x.kind == y.kind) && (x.saga == y.saga)) && (x.seq == y.seq)) && (x.step == y.step)) && (x.tr == y.tr)) && (x.back == y.back)) && (x.good == y.good)) && (x.nd == y.nd)) && (x.part == y.part)) && (x.epoch == y.epoch)) && eqH x.tag y.tag) && decide (x.steps = y.steps)) && decide (x.data = y.data)) && eqH x.salt y.salt) && (x.gone == y.gone)) && eqH x.com y.com)
theorem eqH_hL (d e : Nat → UInt8) : eqH d e = true ↔ hL d = hL e := by
  rw [eqH_iff]
  unfold hL
  constructor
  · intro h
    exact List.map_congr_left fun i hi => h i (List.mem_range.1 hi)
  · intro h i hi
    have := congrArg (·[i]?) h
    simpa [hi] using this
theorem sameB_iff (x y : Rc) : sameB x y = true ↔ SameR x y := by
  unfold sameB
  simp only [Bool.and_eq_true, beq_iff_eq, decide_eq_true_eq, eqH_hL]
  constructor
  · rintro ⟨⟨⟨⟨⟨⟨⟨⟨⟨⟨⟨⟨⟨⟨⟨h1, h2⟩, h3⟩, h4⟩, h5⟩, h6⟩, h7⟩, h8⟩, h9⟩, h10⟩, h11⟩, h12⟩, h13⟩, h14⟩, h15⟩, h16⟩
    exact ⟨h1, h2, h3, h4, h5, h6, h7, h8, h9, h10, h11, h12, h13, h14, h15, h16⟩
  · rintro ⟨h1, h2, h3, h4, h5, h6, h7, h8, h9, h10, h11, h12, h13, h14, h15, h16⟩
    exact ⟨⟨⟨⟨⟨⟨⟨⟨⟨⟨⟨⟨⟨⟨⟨h1, h2⟩, h3⟩, h4⟩, h5⟩, h6⟩, h7⟩, h8⟩, h9⟩, h10⟩, h11⟩, h12⟩, h13⟩, h14⟩, h15⟩, h16⟩
theorem hZ_iff (d : Nat → UInt8) : hZ d = true ↔ hL d = hL fun _ => 0 := by
  constructor
  · exact hZ_hL d
  · intro h
    rw [← eqH_hL, eqH_iff] at h
    unfold hZ
    rw [List.all_eq_true]
    intro i hi
    simpa using h i (List.mem_range.1 hi)
theorem right_eq (x : Rc) : (inRg x && sameB x (onlyR x)) = rightB x := by
  rw [Bool.eq_iff_iff, Bool.and_eq_true, sameB_iff]
  unfold inRg onlyR rightB
  by_cases k1 : x.kind = 1
  · simp only [if_pos k1]
    cases hg : x.gone
    · simp only [Bool.false_eq_true, if_false]
      constructor
      · rintro ⟨h, s⟩
        simp only [Bool.and_eq_true, stepsOk, decide_eq_true_eq, noCall, noReceipt, beq_iff_eq, Bool.not_eq_true'] at h ⊢
        exact ⟨⟨⟨⟨⟨⟨⟨⟨⟨⟨h.1.1, s.seq⟩, ⟨s.step, s.tr⟩, s.back⟩, s.good, (hZ_iff _).2 s.tag⟩, s.nd⟩, s.part⟩, s.epoch⟩, h.1.2.1⟩, h.1.2.2⟩, by omega⟩, (hZ_iff _).2 s.com⟩
      · intro h
        simp only [Bool.and_eq_true, stepsOk, decide_eq_true_eq, noCall, noReceipt, beq_iff_eq, Bool.not_eq_true'] at h ⊢
        obtain ⟨⟨⟨⟨⟨⟨⟨⟨⟨⟨a1, a2⟩, ⟨a3, a4⟩, a5⟩, a6, a7⟩, a8⟩, a9⟩, a10⟩, a11⟩, a12⟩, a13⟩, a14⟩ := h
        exact ⟨⟨⟨a1, a11, a12⟩, by omega⟩, rfl, rfl, a2, a3, a4, a5, a6, a8, a9, a10, (hZ_iff _).1 a7, rfl, rfl, rfl, hg, (hZ_iff _).1 a14⟩
    · simp only [if_true]
      constructor
      · rintro ⟨h, s⟩
        simp only [Bool.and_eq_true, stepsOk, decide_eq_true_eq, noCall, noReceipt, beq_iff_eq, Bool.not_eq_true', List.isEmpty_iff] at h ⊢
        exact ⟨⟨⟨⟨⟨⟨⟨⟨⟨⟨h.1.1, s.seq⟩, ⟨s.step, s.tr⟩, s.back⟩, s.good, (hZ_iff _).2 s.tag⟩, s.nd⟩, s.part⟩, s.epoch⟩, h.1.2.1⟩, h.1.2.2⟩, by omega⟩, s.data, (hZ_iff _).2 s.salt⟩
      · intro h
        simp only [Bool.and_eq_true, stepsOk, decide_eq_true_eq, noCall, noReceipt, beq_iff_eq, Bool.not_eq_true', List.isEmpty_iff] at h ⊢
        obtain ⟨⟨⟨⟨⟨⟨⟨⟨⟨⟨a1, a2⟩, ⟨a3, a4⟩, a5⟩, a6, a7⟩, a8⟩, a9⟩, a10⟩, a11⟩, a12⟩, a13⟩, a14, a15⟩ := h
        exact ⟨⟨⟨a1, a11, a12⟩, by omega⟩, rfl, rfl, a2, a3, a4, a5, a6, a8, a9, a10, (hZ_iff _).1 a7, rfl, a14, (hZ_iff _).1 a15, hg, rfl⟩
  simp only [if_neg k1]
  by_cases k3 : x.kind = 3
  · simp only [if_pos k3, if_neg (show ¬ (x.kind = 2 ∨ x.kind = 4) by omega)]
    constructor
    · rintro ⟨h, s⟩
      simp only [Bool.and_eq_true, isCall, noBegin, beq_iff_eq, Bool.not_eq_true', Bool.or_eq_false_iff, Bool.not_eq_false', List.isEmpty_iff] at h ⊢
      exact ⟨⟨⟨⟨⟨h.2.1.1.1, ⟨h.2.1.1.2, h.2.1.2⟩, h.2.2⟩, s.nd⟩, h.1.1⟩, h.1.2⟩, ⟨⟨⟨s.steps, s.data⟩, (hZ_iff _).2 s.salt⟩, s.gone⟩, (hZ_iff _).2 s.com⟩
    · intro h
      simp only [Bool.and_eq_true, isCall, noBegin, beq_iff_eq, Bool.not_eq_true', Bool.or_eq_false_iff, Bool.not_eq_false', List.isEmpty_iff] at h ⊢
      obtain ⟨⟨⟨⟨⟨a1, ⟨a2, a3⟩, a4⟩, a7⟩, a8⟩, a9⟩, ⟨⟨⟨a10, a11⟩, a12⟩, a13⟩, a14⟩ := h
      exact ⟨⟨⟨a8, a9⟩, ⟨⟨a1, a2⟩, a3⟩, a4⟩, rfl, rfl, rfl, rfl, rfl, rfl, rfl, a7, rfl, rfl, rfl, a10, a11, (hZ_iff _).1 a12, a13, (hZ_iff _).1 a14⟩
  simp only [if_neg k3]
  by_cases k2 : x.kind = 2 ∨ x.kind = 4
  · simp only [if_pos k2]
    constructor
    · rintro ⟨h, s⟩
      simp only [Bool.and_eq_true, isCall, noReceipt, noBegin, beq_iff_eq, Bool.not_eq_true', List.isEmpty_iff] at h ⊢
      exact ⟨⟨⟨⟨⟨⟨h.1.1.1, ⟨h.1.1.2, h.1.2⟩, h.2⟩, s.good, (hZ_iff _).2 s.tag⟩, s.nd⟩, s.part⟩, s.epoch⟩, ⟨⟨⟨s.steps, s.data⟩, (hZ_iff _).2 s.salt⟩, s.gone⟩, (hZ_iff _).2 s.com⟩
    · intro h
      simp only [Bool.and_eq_true, isCall, noReceipt, noBegin, beq_iff_eq, Bool.not_eq_true', List.isEmpty_iff] at h ⊢
      obtain ⟨⟨⟨⟨⟨⟨a1, ⟨a2, a3⟩, a4⟩, a5, a6⟩, a7⟩, a8⟩, a9⟩, ⟨⟨⟨a10, a11⟩, a12⟩, a13⟩, a14⟩ := h
      exact ⟨⟨⟨⟨a1, a2⟩, a3⟩, a4⟩, rfl, rfl, rfl, rfl, rfl, rfl, a5, a7, a8, a9, (hZ_iff _).1 a6, a10, a11, (hZ_iff _).1 a12, a13, (hZ_iff _).1 a14⟩
  simp only [if_neg k2]
  by_cases k5 : x.kind = 5
  · simp only [if_pos k5]
    constructor
    · rintro ⟨h, s⟩
      simp only [Bool.and_eq_true, noCall, noReceipt, noBegin, beq_iff_eq, Bool.not_eq_true', List.isEmpty_iff] at h ⊢
      exact ⟨⟨⟨⟨⟨⟨⟨h.1.1, h.1.2⟩, ⟨s.step, s.tr⟩, s.back⟩, s.good, (hZ_iff _).2 s.tag⟩, h.2⟩, s.part⟩, s.epoch⟩, ⟨⟨⟨s.steps, s.data⟩, (hZ_iff _).2 s.salt⟩, s.gone⟩, (hZ_iff _).2 s.com⟩
    · intro h
      simp only [Bool.and_eq_true, noCall, noReceipt, noBegin, beq_iff_eq, Bool.not_eq_true', List.isEmpty_iff] at h ⊢
      obtain ⟨⟨⟨⟨⟨⟨⟨a1, a2⟩, ⟨a3, a4⟩, a5⟩, a6, a7⟩, a8⟩, a9⟩, aA⟩, ⟨⟨⟨a10, a11⟩, a12⟩, a13⟩, a14⟩ := h
      exact ⟨⟨⟨a1, a2⟩, a8⟩, rfl, rfl, rfl, a3, a4, a5, a6, rfl, a9, aA, (hZ_iff _).1 a7, a10, a11, (hZ_iff _).1 a12, a13, (hZ_iff _).1 a14⟩
  simp only [if_neg k5]
  by_cases k6 : x.kind = 6
  · simp only [if_pos k6]
    constructor
    · rintro ⟨h, s⟩
      simp only [Bool.and_eq_true, noCall, noReceipt, noBegin, beq_iff_eq, Bool.not_eq_true', List.isEmpty_iff] at h ⊢
      exact ⟨⟨⟨⟨⟨⟨⟨s.saga, s.seq⟩, ⟨s.step, s.tr⟩, s.back⟩, s.good, (hZ_iff _).2 s.tag⟩, s.nd⟩, h.1⟩, h.2⟩, ⟨⟨⟨s.steps, s.data⟩, (hZ_iff _).2 s.salt⟩, s.gone⟩, (hZ_iff _).2 s.com⟩
    · intro h
      simp only [Bool.and_eq_true, noCall, noReceipt, noBegin, beq_iff_eq, Bool.not_eq_true', List.isEmpty_iff] at h ⊢
      obtain ⟨⟨⟨⟨⟨⟨⟨a1, a2⟩, ⟨a3, a4⟩, a5⟩, a6, a7⟩, a8⟩, a9⟩, aA⟩, ⟨⟨⟨a10, a11⟩, a12⟩, a13⟩, a14⟩ := h
      exact ⟨⟨a9, aA⟩, rfl, a1, a2, a3, a4, a5, a6, a8, rfl, rfl, (hZ_iff _).1 a7, a10, a11, (hZ_iff _).1 a12, a13, (hZ_iff _).1 a14⟩
  simp only [if_neg k6]
  simp
/-- What a value that is a record says. -/
def svRec (x : Rc) : SV NewT := ⟨fun v w => RecV w v x, fun _ _ _ h hT => hT.recV h⟩
def svPairs (l : List (Int × Int)) : SV NewT := ⟨fun v w => RdP w v l, fun _ _ _ h hT => hT.pairs h⟩
theorem recF_tag (x : Rc) (sv dv : Value) (j : Nat) (h : j < 32) : recF x sv dv (10 + j) = bF x.tag j := by
  unfold recF; rw [if_neg (by omega), if_pos (by omega), Nat.add_sub_cancel_left]
theorem recF_salt (x : Rc) (sv dv : Value) (j : Nat) (h : j < 32) : recF x sv dv (44 + j) = bF x.salt j := by
  unfold recF; rw [if_neg (by omega), if_neg (by omega), if_neg (by omega), if_neg (by omega), if_pos (by omega), Nat.add_sub_cancel_left]
theorem recF_com (x : Rc) (sv dv : Value) (j : Nat) (h : j < 32) : recF x sv dv (77 + j) = bF x.com j := by
  unfold recF; rw [if_neg (by omega), if_neg (by omega), if_neg (by omega), if_neg (by omega), if_neg (by omega), if_neg (by omega), Nat.add_sub_cancel_left]
end Go.Proofs.YtcfogkimjbgjgaaDoor
/- Package rec's base: a record that lies in memory, its fields, and what the guards of a region make conditional. -/
namespace Go.Proofs.YtcfogkimjbgjgaaDoor
open Go Go.RowKit
set_option maxRecDepth 8000
set_option linter.all false

/-- A record in memory: block g holds x. -/
def recOff (k : Nat) : Nat := if k < 12 then (if k = 11 then 42 else k) else if k = 12 then 43 else if k = 13 then 44 else if k = 14 then 76 else 77
theorem info_rec : (Tryd.prog.info? 30).map (·.size) = some 109 := by kernel_rfl
theorem recTy : RecTy Tryd.prog 30 := by
  refine ⟨_, Tryd.underlying30, by kernel_rfl, ?_, ?_, ?_, ?_, ?_⟩
  · intro i hi
    simp only [List.mem_cons, List.not_mem_nil, or_false] at hi
    rcases hi with rfl | rfl | rfl | rfl | rfl | rfl | rfl | rfl <;> exact ⟨_, rfl, rfl, Tryd.underlying3, by kernel_rfl⟩
  · intro i hi
    simp only [List.mem_cons, List.not_mem_nil, or_false] at hi
    rcases hi with rfl | rfl | rfl <;> exact ⟨_, rfl, rfl, Tryd.underlying4, by kernel_rfl⟩
  · intro i hi
    simp only [List.mem_cons, List.not_mem_nil, or_false] at hi
    rcases hi with rfl | rfl | rfl <;> exact ⟨_, _, rfl, rfl, Tryd.underlying26, Tryd.underlying5, by kernel_rfl, by kernel_rfl⟩
  · exact ⟨_, _, _, _, rfl, rfl, Tryd.underlying27, Tryd.underlying74, by kernel_rfl, rfl, rfl, by kernel_rfl, by kernel_rfl, Tryd.underlying3, Tryd.underlying3, by kernel_rfl⟩
  · exact ⟨_, _, rfl, rfl, Tryd.underlying28, Tryd.underlying5, by kernel_rfl, by kernel_rfl⟩
section
variable {a : Act} {w : World} {o : Oper} {K : Act → World → Prop} {Q : Exit → Act → World → Prop} {x : Operand} {g : Nat}
theorem info_steps1 : (Tryd.prog.info? 27).map (·.size) = some (0 + 1) := by kernel_rfl
/-- The place of a record's field. -/
theorem opr_fldR {k : Nat} (hk : k < 16) (ho : o.op = .fieldAddr 30 x k) (hx : a.eval x = .pointer (some ⟨g, 0, none⟩)) (h : K (a.put o.dst (.pointer (some ⟨g, recOff k, none⟩))) w) : o.wp Tryd.prog a w K Q := by
  have hk' : k = 0 ∨ k = 1 ∨ k = 2 ∨ k = 3 ∨ k = 4 ∨ k = 5 ∨ k = 6 ∨ k = 7 ∨ k = 8 ∨ k = 9 ∨ k = 10 ∨ k = 11 ∨ k = 12 ∨ k = 13 ∨ k = 14 ∨ k = 15 := by omega
  rcases hk' with rfl | rfl | rfl | rfl | rfl | rfl | rfl | rfl | rfl | rfl | rfl | rfl | rfl | rfl | rfl | rfl
  all_goals
    first
      | exact opr_fld Tryd.underlying30 rfl info_int ho hx (by rfl) h
      | exact opr_fld Tryd.underlying30 rfl info_bool ho hx (by rfl) h
      | exact opr_fld Tryd.underlying30 rfl info_hash1 ho hx (by rfl) h
      | exact opr_fld Tryd.underlying30 rfl info_steps1 ho hx (by rfl) h
      | exact opr_fld Tryd.underlying30 rfl info_sb1 ho hx (by rfl) h
theorem opr_fldS {k o0 : Nat} (hk : k < 2) (ho : o.op = .fieldAddr 74 x k) (hx : a.eval x = .pointer (some ⟨g, o0, none⟩)) (h : K (a.put o.dst (.pointer (some ⟨g, o0 + k, none⟩))) w) : o.wp Tryd.prog a w K Q := by
  have hk' : k = 0 ∨ k = 1 := by omega
  rcases hk' with rfl | rfl
  all_goals exact opr_fld Tryd.underlying74 rfl info_int ho hx (by rfl) h
variable {F : Nat → Value} {t' : TypeId} {n : Nat} {o0 : Nat} {v : Value}
theorem opr_ldS (hr : w.rowIs g t' n F) (hn : o0 < n) (hv : F o0 = v) (ho : o.op = .load 27 x) (hx : a.eval x = .pointer (some ⟨g, o0, none⟩)) (h : K (a.put o.dst v) w) : o.wp Tryd.prog a w K Q :=
  opr_ld1 Tryd.underlying27 rfl ho hx (by rw [hr.cell hn, hv]) h
theorem opr_ldR (hr : w.rowIs g t' 109 F) (ho : o.op = .load 30 x) (hx : a.eval x = .pointer (some ⟨g, 0, none⟩)) (h : K (a.put o.dst (.agg (rowA 109 F))) w) : o.wp Tryd.prog a w K Q :=
  opr_ldm Tryd.underlying30 rfl info_rec ho hx hr (by omega) (by rw [rowA_congr (g := F) fun i _ => by rw [Nat.zero_add]]; exact h)
end
section
variable {a : Act} {w : World} {o : Oper} {K : Act → World → Prop} {Q : Exit → Act → World → Prop} {x y : Operand} {g : Nat}
theorem opr_len_pairs {l : List (Int × Int)} (ho : o.op = .call { callee := .builtin .len, args := #[x], argTypes := #[27] }) (hx : RdP w (a.eval x) l) (h : K (a.put o.dst (.int .i64 (l.length : Int))) w) : o.wp Tryd.prog a w K Q := by
  obtain ⟨A, c, hv, _⟩ := hx
  exact opr_len ho Tryd.underlying27 hv h
end
end Go.Proofs.YtcfogkimjbgjgaaDoor
/- slices.Clone of bytes; no bytes; bytes in a row that is new. -/
namespace Go.Proofs.YtcfogkimjbgjgaaDoor
open Go Go.RowKit
set_option maxRecDepth 8000
set_option linter.all false
theorem rdV_nil (W : World) (L : List Nat) : RdV W L (.slice none 0 0) [] := ⟨none, 0, rfl, Nat.le_refl _, by unfold maxLen; omega, fun h => absurd h (by simp)⟩
theorem rdN_own {W w : World} {v : Value} {n : Nat} {l : List UInt8} (h : w.ownsRow W.heap.size 5 1 v n (l.map fun b => .int .u8 (bN b))) (hl : l.length = n) : (svRdN W l).pred v w :=
  fun _ hL => rdV_own h hl hL
theorem svRdN_rd {W w : World} {v : Value} {l : List UInt8} (h : (svRdN W l).pred v w) (L : List Nat) (hL : ∀ k ∈ L, k < W.heap.size) : RdV w L v l := h L hL
end Go.Proofs.YtcfogkimjbgjgaaDoor
/- A number's bytes are put: wire.Num. -/
namespace Go.Proofs.YtcfogkimjbgjgaaDoor
open Go Go.RowKit
set_option maxRecDepth 8000
set_option linter.all false

theorem or128 (x : Int) : bits .or .u8 (IntKind.u8.wrap x) 128 = bN (uB ((x % 128).toNat + 128)) := by
  have h : ∀ k : Fin 256, bits .or .u8 (k.val : Int) 128 = ((k.val % 128 + 128 : Nat) : Int) := by decide +kernel
  rw [wrap_u8, bN, toNat_uB]
  have := h ⟨(x % 256).toNat, by omega⟩
  simp only at this
  rw [show (((x % 256).toNat : Nat) : Int) = x % 256 by omega] at this
  rw [this]; omega
theorem and127 (y : Nat) : bits .and .u8 (bN (uB (y % 128 + 128))) 127 = bN (uB (y % 128)) := by
  have h : ∀ k : Fin 256, bits .and .u8 (k.val : Int) 127 = ((k.val % 128 : Nat) : Int) := by decide +kernel
  rw [bN, bN, toNat_uB, toNat_uB]
  have := h ⟨(y % 128 + 128) % 256, by omega⟩
  simp only at this
  rw [this]; omega
/-- The place i, ahead of the last one's mask. -/
def numC (n s i : Nat) : UInt8 := uB (n / 2 ^ (7 * (s - 1 - i)) % 128 + 128)
theorem numC_eq (n s i : Nat) : bits .or .u8 ((n : Int) / 2 ^ (7 * (s - 1 - i)) % 256) 128 = bN (numC n s i) := by
  rw [← wrap_u8, or128, numC]
  have h2 : ((2 : Int) ^ (7 * (s - 1 - i))) = ((2 ^ (7 * (s - 1 - i)) : Nat) : Int) := by simp
  rw [h2, ← Int.natCast_ediv]
  congr 2
theorem sz_test (n k : Nat) (hn : n ≤ 2147483647) (hk : 1 ≤ k) (hk2 : k ≤ sz n) : (0 < (n : Int) / 2 ^ (7 * k)) ↔ k < sz n := by
  have h5 := sz_le n
  have hh : k = 1 ∨ k = 2 ∨ k = 3 ∨ k = 4 ∨ k = 5 := by omega
  unfold sz at *
  rcases hh with rfl | rfl | rfl | rfl | rfl
  all_goals
    simp only [Nat.reduceMul, Int.reducePow]
    split <;> (try split) <;> (try split) <;> (try split) <;> omega
set_option maxHeartbeats 1000000 in
theorem Num_in (n : Nat) (hn : n ≤ 2147483647) (w : World) : Cv 37 #[.int .i64 (n : Int)] w (svRdN w (numL n)) := by
  unfold Cv
  obtain ⟨s, hs⟩ : ∃ s, sz n = s := ⟨_, rfl⟩
  have h1 := sz_pos n
  have h5 := sz_le n
  have hT := sz_test n
  have hrow := numL_row n hn
  rw [hs] at h1 h5 hT hrow
  have Hrow := Lib.hid hrow
  have HT := Lib.hid hT
  have Hs := Lib.hid hs
  clear hT hrow hs
  obtain ⟨i0, hi, hz0, hz1, hz2⟩ := info_parts info5
  have hmk : ∀ W : World, (Instr.makeSlice 28 (.int .i64 (s : Int)) (.int .i64 (s : Int))).run Tryd.prog W = .ok (.slice (some ⟨W.heap.size, 0, none⟩) s s) (W.alloc (.cells (rowA s (bF fun _ => 0)) 5)) := make_bytes i0 hi hz0 hz1 hz2 s (by omega)
  have HB := Lib.hid (numC_eq n s)
  clear hi hz0 hz1 hz2
  go_enter Tryd.func37, Tryd.ntmps37
  go_wp2
  go_loop [3] (fun i => ∃ k : Nat, 1 ≤ k ∧ k ≤ s ∧ i = .int .i64 k) (fun i => s - (intOf i).toNat)
  case atStart => exact ⟨1, by omega, by omega, rfl⟩
  case round =>
    obtain ⟨k, hk1, hk, rfl⟩ := hrel
    have e7 : ((7 : Int) * (k : Int)).toNat = 7 * k := by omega
    have ht := HT.out k hn hk1 hk
    by_cases hlt : k < s
    · have ht1 : 0 < (n : Int) / 2 ^ (7 * k) := ht.2 hlt
      clear ht
      go_wp2
      go_round
      case rel => exact ⟨k + 1, by omega, by omega, by go_num⟩
      case measure => simp [intOf]; omega
    · have ht1 : ¬ 0 < (n : Int) / 2 ^ (7 * k) := fun h => hlt (ht.1 h)
      clear ht
      obtain rfl : k = s := by omega
      go_wp2
      have r0 := rowIs_box w 5 k (bF fun _ => 0)
      have hB : Below w.heap.size w (w.alloc (.cells (rowA k (bF fun _ => 0)) 5)) := (Below.refl _ w).alloc (Nat.le_refl _) _
      generalize w.alloc (.cells (rowA k (bF fun _ => 0)) 5) = W0 at r0 hB ⊢
      clear hmk ht1 hlt e7
      go_loopw [23] (fun i wr => ∃ j : Nat, j ≤ k ∧ i = .int .i64 j ∧ wr.rowIs w.heap.size 5 k (bF (putTo (numC n k) j)) ∧ Below w.heap.size w wr) (fun i _ => k - (intOf i).toNat)
      case atStart => exact ⟨0, by omega, rfl, r0.congr fun i _ => by simp [bF, putTo], hB⟩
      case round =>
        obtain ⟨j, hj, rfl, q0, qB⟩ := hrel
        clear r0 hB
        by_cases hlt : j < k
        · have c0 := q0.cell (i := j) hlt
          have f0 := q0.frozen j
          have e7 : ((7 : Int) * ((k : Int) - 1 - (j : Int))).toNat = 7 * (k - 1 - j) := by omega
          have hb8 := HB.out j
          go_wp2
          go_roundw
          case rel => exact ⟨j + 1, by omega, by go_num, (q0.set j _).congr fun i _ => putTo_set _ j i, qB.setCell (by simp) _⟩
          case measure => simp [intOf]; omega
        · obtain rfl : j = k := by omega
          obtain ⟨m, rfl⟩ : ∃ m, j = m + 1 := ⟨j - 1, by omega⟩
          have c0 := q0.cell (i := m) (by omega)
          have f0 := q0.frozen m
          have e1 : bN (putTo (numC n (m + 1)) (m + 1) m) = bN (uB (n % 128 + 128)) := by
            rw [putTo, if_pos (by omega), numC, show m + 1 - 1 - m = 0 by omega]; simp
          rw [bF_at, e1] at c0
          have h127 := and127 n
          obtain ⟨y, hy⟩ : ∃ y, uB (n % 128 + 128) = y := ⟨_, rfl⟩
          rw [hy] at c0 h127
          clear hy e1
          go_wp2
          go_ret
          refine ⟨_, rfl, qB.setCell (by simp) _, fun L hL => ?_⟩
          have q1 := (q0.set m (.int .u8 (bN (uB (n % 128))))).congr (g := bF (numB n (m + 1))) fun i hi => by
            by_cases hm : i = m
            · subst hm
              rw [if_pos rfl, bF_at, numB, if_pos rfl, show i + 1 - 1 - i = 0 by omega]; simp
            · rw [if_neg hm, bF_at, bF_at, putTo, if_pos hi, numB, if_neg (by omega), numC]
          have := rd_row (L := L) q1 (fun hm => by have := hL _ hm; omega) (by omega)
          rw [← Hrow.out] at this
          exact this
set_option maxHeartbeats 400000 in
theorem Num_out (n : Int) (hn : ¬ (0 ≤ n ∧ n ≤ 2147483647)) (w : World) : Cv 37 #[.int .i64 n] w (svRdN w []) := by
  unfold Cv
  by_cases h0 : n < 0
  · go_enter Tryd.func37, Tryd.ntmps37
    go_wp2
    go_ret
    exact ⟨_, rfl, NewT.refl _, fun L _ => rdV_nil _ _⟩
  · have h1 : 2147483647 < n := by omega
    clear hn
    go_enter Tryd.func37, Tryd.ntmps37
    go_wp2
    go_ret
    exact ⟨_, rfl, NewT.refl _, fun L _ => rdV_nil _ _⟩
/-- Whatever number. -/
theorem Num_cv (n : Int) (w : World) : Cv 37 #[.int .i64 n] w (svRdN w (numI n)) := by
  unfold numI
  by_cases h : 0 ≤ n ∧ n ≤ 2147483647
  · rw [if_pos h]
    obtain ⟨m, rfl⟩ := Int.eq_ofNat_of_zero_le h.1
    exact Num_in m (by omega) w
  · rw [if_neg h]; exact Num_out n h w
end Go.Proofs.YtcfogkimjbgjgaaDoor
/- A reader: a block of two cells, what is left and the error; what its small calls answer. -/
namespace Go.Proofs.YtcfogkimjbgjgaaDoor
open Go Go.RowKit
set_option maxRecDepth 8000
set_option linter.all false

/-- It reads as l, in a block ahead of R. -/
def Rest (w : World) (R : Nat) (v : Value) (l : List UInt8) : Prop := ∀ L, (∀ k ∈ L, R ≤ k) → RdV w L v l
theorem Rest.rd {w : World} {R : Nat} {v : Value} {l : List UInt8} (h : Rest w R v l) : RdV w [R] v l := h [R] (by simp)
theorem Rest.new {w w' : World} {R : Nat} {v : Value} {l : List UInt8} (h : Rest w R v l) (hN : NewT w w') : Rest w' R v l := fun L hL => hN.rd (h L hL)
theorem Rest.keep {w w' : World} {R : Nat} {v : Value} {l : List UInt8} (h : Rest w R v l) {G : List Nat} (hG : ∀ k ∈ G, R ≤ k) (hK : KeepBut G w w') : Rest w' R v l := fun L hL => by
  have h1 := h (G ++ L) (fun k hk => by rcases List.mem_append.1 hk with hk | hk; exact hG k hk; exact hL k hk)
  obtain ⟨A, cap, hv, h1, h2, h3⟩ := h1.keep (hK.more fun k hk => List.mem_append.2 (.inl hk))
  refine ⟨A, cap, hv, h1, h2, fun h0 => ?_⟩
  obtain ⟨b, o, hA, hb, hc⟩ := h3 h0
  exact ⟨b, o, hA, fun hm => hb (List.mem_append.2 (.inr hm)), hc⟩
theorem NewT.of_eq {w w' : World} (h : w = w') : NewT w w' := h ▸ NewT.refl w
end Go.Proofs.YtcfogkimjbgjgaaDoor
/- What puts: Flag, All, Bytes, Hash; Clone; a new reader. -/
namespace Go.Proofs.YtcfogkimjbgjgaaDoor
open Go Go.RowKit
set_option maxRecDepth 8000
set_option linter.all false

theorem flat_take_succ (ps : List (Value × List UInt8)) (k : Nat) (x : Value × List UInt8) (h : ps[k]? = some x) : flat (ps.take (k + 1)) = flat (ps.take k) ++ x.2 := by
  rw [List.take_add_one, h]; exact flat_snoc _ _
theorem flat_take_le (ps : List (Value × List UInt8)) (k : Nat) : (flat (ps.take k)).length ≤ (flat ps).length := by
  have e : flat ps = flat (ps.take k) ++ flat (ps.drop k) := by
    unfold flat; rw [← List.flatten_append, ← List.map_append, List.take_append_drop]
  rw [e]; simp
end Go.Proofs.YtcfogkimjbgjgaaDoor
/- Clone; Bytes, Hash; a new reader. -/
namespace Go.Proofs.YtcfogkimjbgjgaaDoor
open Go Go.RowKit
set_option maxRecDepth 8000
set_option linter.all false

end Go.Proofs.YtcfogkimjbgjgaaDoor
/- Bytes are read as a number: wire.number. -/
namespace Go.Proofs.YtcfogkimjbgjgaaDoor
open Go Go.RowKit
set_option maxRecDepth 8000
set_option linter.all false

theorem and127b (c : UInt8) : bits .and .u8 (bN c) 127 = ((c.toNat % 128 : Nat) : Int) := by
  have h : ∀ k : Fin 256, bits .and .u8 (k.val : Int) 127 = ((k.val % 128 : Nat) : Int) := by decide +kernel
  have := h ⟨c.toNat, c.toNat_lt⟩
  exact this
theorem and128b (c : UInt8) : bits .and .u8 (bN c) 128 = if 128 ≤ c.toNat then 128 else 0 := by
  have h : ∀ k : Fin 256, bits .and .u8 (k.val : Int) 128 = if 128 ≤ k.val then 128 else 0 := by decide +kernel
  have := h ⟨c.toNat, c.toNat_lt⟩
  exact this
theorem or7 (v m : Nat) (hm : m < 128) (hv : v < 1125899906842624) : bits .or .u64 ((v : Int) * 128) (m : Int) = ((v * 128 + m : Nat) : Int) := by
  show IntKind.u64.wrap (((BitVec.ofInt 64 ((v : Int) * 128) ||| BitVec.ofInt 64 (m : Int)).toNat : Nat) : Int) = _
  have e1 : BitVec.ofInt 64 ((v : Int) * 128) = BitVec.ofNat 64 (v * 128) := by
    rw [show (v : Int) * 128 = ((v * 128 : Nat) : Int) by omega, BitVec.ofInt_natCast]
  rw [e1, BitVec.ofInt_natCast, BitVec.toNat_or, BitVec.toNat_ofNat, BitVec.toNat_ofNat, Nat.mod_eq_of_lt (by omega), Nat.mod_eq_of_lt (by omega)]
  have := Nat.shiftLeft_add_eq_or_of_lt (b := m) (i := 7) (by omega) v
  rw [Nat.shiftLeft_eq] at this
  rw [show v * 128 = v * 2 ^ 7 by omega, ← this]
  simp [IntKind.wrap, IntKind.bits, IntKind.signed]
  omega
theorem drop_bAt (l : List UInt8) (k : Nat) (h : k < l.length) : l.drop k = bAt l k :: l.drop (k + 1) := by
  rw [List.drop_eq_getElem_cons h]; simp [bAt, h]
/-- What is read, as values. -/
def numV (r : Nat × Nat × Nat) : Value := .tuple #[.int .i64 (r.1 : Int), .int .i64 (r.2.1 : Int), .int .i64 (r.2.2 : Int)]
end Go.Proofs.YtcfogkimjbgjgaaDoor
/- A reader reads a number: take[int], Num. -/
namespace Go.Proofs.YtcfogkimjbgjgaaDoor
open Go Go.RowKit
set_option maxRecDepth 8000
set_option linter.all false

/-- What stands behind the first k bytes. -/
theorem rd_from {w : World} {L : List Nat} {b o n cap k : Nat} {l : List UInt8} (h : RdV w L (.slice (some ⟨b, o, none⟩) n cap) l) (hk : k ≤ n) :
    RdV w L (.slice (some (if cap = k then ⟨b, o, none⟩ else (⟨b, o, none⟩ : Addr).add k)) (n - k) (cap - k)) (l.drop k) := by
  obtain ⟨A, c, hv, h1, h2, h3⟩ := h
  cases hv
  refine ⟨some (if cap = k then ⟨b, o, none⟩ else (⟨b, o, none⟩ : Addr).add k), cap - k, by simp, by simp; omega, by omega, fun h0 => ?_⟩
  simp at h0
  obtain ⟨b', o', hA, hb, hc⟩ := h3 (by omega)
  cases hA
  refine ⟨b, o + k, by rw [if_neg (by omega), Addr.add_mid], hb, fun i hi => ?_⟩
  simp at hi
  rw [Nat.add_assoc, hc (k + i) (by omega)]
  simp [bAt]
/-- What a number that is asked for turns a reader that isn't bad to. -/
def outN (l : List UInt8) : Nat × List UInt8 × Nat := if (goN l 0 0).2.2 = 0 then ((goN l 0 0).1, l.drop (goN l 0 0).2.1, 0) else (0, [], (goN l 0 0).2.2)
end Go.Proofs.YtcfogkimjbgjgaaDoor
/- A reader reads a flag: take[bool], Flag. -/
namespace Go.Proofs.YtcfogkimjbgjgaaDoor
open Go Go.RowKit
set_option maxRecDepth 8000
set_option linter.all false

/-- Bytes read as a flag: it, how many bytes it has, the error. -/
def goF : List UInt8 → Bool × Nat × Nat
  | [] => (false, 0, 3)
  | c :: _ => if 1 < c.toNat then (false, 0, 2) else (c.toNat == 1, 1, 0)
theorem goF_bounds (l : List UInt8) : (goF l).2.2 = 0 → (goF l).2.1 = 1 ∧ 1 ≤ l.length := by
  cases l with
  | nil => simp [goF]
  | cons c r => rw [goF]; split <;> simp
theorem goF_err (l : List UInt8) : (goF l).2.2 ≠ 0 → goF l = (false, 0, (goF l).2.2) ∧ ((goF l).2.2 = 2 ∨ (goF l).2.2 = 3) := by
  cases l with
  | nil => simp [goF]
  | cons c r => rw [goF]; split <;> simp
def flagV (r : Bool × Nat × Nat) : Value := .tuple #[.bool r.1, .int .i64 (r.2.1 : Int), .int .i64 (r.2.2 : Int)]
/-- What a flag that is asked for turns a reader that isn't bad to. -/
def outQ (l : List UInt8) : Bool × List UInt8 × Nat := if (goF l).2.2 = 0 then ((goF l).1, l.drop (goF l).2.1, 0) else (false, [], (goF l).2.2)
end Go.Proofs.YtcfogkimjbgjgaaDoor
/- A reader reads bytes: take[[]byte], Bytes. -/
namespace Go.Proofs.YtcfogkimjbgjgaaDoor
open Go Go.RowKit
set_option maxRecDepth 8000
set_option linter.all false

/-- Bytes read as bytes of a limit: these, how many bytes they have with their number, the error. -/
def goB (l : List UInt8) (most : Int) : List UInt8 × Nat × Nat :=
  if (goN l 0 0).2.2 ≠ 0 then ([], 0, (goN l 0 0).2.2) else if most < ((goN l 0 0).1 : Int) then ([], 0, 4) else if l.length < (goN l 0 0).2.1 + (goN l 0 0).1 then ([], 0, 3)
  else ((l.drop (goN l 0 0).2.1).take (goN l 0 0).1, (goN l 0 0).2.1 + (goN l 0 0).1, 0)
theorem goB_bounds (l : List UInt8) (most : Int) : (goB l most).2.2 = 0 → 0 < (goB l most).2.1 ∧ (goB l most).2.1 ≤ l.length := by
  unfold goB
  split
  · simp; omega
  · rename_i h
    have := goN_bounds l 0 0 (by simpa using h)
    split
    · simp
    · split
      · simp
      · simp; omega
theorem goB_err (l : List UInt8) (most : Int) : (goB l most).2.2 ≠ 0 → goB l most = ([], 0, (goB l most).2.2) := by
  unfold goB
  split
  · simp
  · split
    · simp
    · split <;> simp
theorem slice_mid (b o n cap k m : Nat) (h : k + m ≤ cap) (w : World) : (Instr.slice 28 (.slice (some ⟨b, o, none⟩) n cap) (some (.int .i64 (k : Int))) (some (.int .i64 ((k : Int) + (m : Int)))) none).run Tryd.prog w = .ok (.slice (some (if cap = k then ⟨b, o, none⟩ else (⟨b, o, none⟩ : Addr).add k)) m (cap - k)) w := by
  have hsz : (sizeOf 5).run Tryd.prog w = .ok 1 w := by
    obtain ⟨i0, hi, _, hz1, _⟩ := info_parts info5
    simp [sizeOf, typeInfo, hi, hz1]
  have h3 : (0 : Int) ≤ (k : Int) + (m : Int) ∧ (k : Int) + (m : Int) ≤ (cap : Int) := by omega
  have h4 : k ≤ ((k : Int) + (m : Int)).toNat := by omega
  have h6 : ((k : Int) + (m : Int)).toNat - k = m := by omega
  by_cases h5 : cap = k
  · simp [Instr.slice, run_underlying Tryd.underlying28, Instr.sliceBounds, Instr.sliceBound, asIntOf, hsz, h3, h4, h5, h6, Addr.add_zero']
    omega
  · simp [Instr.slice, run_underlying Tryd.underlying28, Instr.sliceBounds, Instr.sliceBound, asIntOf, hsz, h3, h4, h5, h6]
/-- The m bytes behind the first k. -/
theorem rd_mid {w : World} {L : List Nat} {b o n cap k m : Nat} {l : List UInt8} (h : RdV w L (.slice (some ⟨b, o, none⟩) n cap) l) (hk : k + m ≤ n) :
    RdV w L (.slice (some (if cap = k then ⟨b, o, none⟩ else (⟨b, o, none⟩ : Addr).add k)) m (cap - k)) ((l.drop k).take m) := by
  obtain ⟨A, c, hv, h1, h2, h3⟩ := h
  cases hv
  have hlen : ((l.drop k).take m).length = m := by simp; omega
  refine ⟨some (if cap = k then ⟨b, o, none⟩ else (⟨b, o, none⟩ : Addr).add k), cap - k, by rw [hlen], by rw [hlen]; omega, by omega, fun h0 => ?_⟩
  rw [hlen] at h0
  obtain ⟨b', o', hA, hb, hc⟩ := h3 (by omega)
  cases hA
  refine ⟨b, o + k, by rw [if_neg (by omega), Addr.add_mid], hb, fun i hi => ?_⟩
  rw [hlen] at hi
  rw [Nat.add_assoc, hc (k + i) (by omega)]
  simp [bAt, List.getElem?_take, hi]
theorem svRdN_step {W w w' : World} {R : Nat} {u : Value} {t : List UInt8} (h : (svRdN W t).pred u w) (hT : RT R w w') (hR : R < W.heap.size) : (svRdN W t).pred u w' := fun L hL => by
  have h1 : RdV w (R :: L) u t := h (R :: L) (fun k hk => by rcases List.mem_cons.1 hk with rfl | hk; exact hR; exact hL k hk)
  exact (h1.keep (hT.keep.more fun k hk => by simp at hk; simp [hk])).less fun k hk => by simp [hk]
theorem svRdN_base {W w w' : World} {u : Value} {t : List UInt8} (h : (svRdN W t).pred u w') (hB : w.heap.size ≤ W.heap.size) : (svRdN w t).pred u w' := fun L hL => h L fun k hk => by have := hL k hk; omega
/-- What bytes that are asked for turn a reader that isn't bad to. -/
def outB (l : List UInt8) (most : Int) : List UInt8 × List UInt8 × Nat := if (goB l most).2.2 = 0 then ((goB l most).1, l.drop (goB l most).2.1, 0) else ([], [], (goB l most).2.2)
end Go.Proofs.YtcfogkimjbgjgaaDoor
/- A reader reads a hash: take[api.Hash], Hash. -/
namespace Go.Proofs.YtcfogkimjbgjgaaDoor
open Go Go.RowKit
set_option maxRecDepth 8000
set_option linter.all false

/-- Bytes read as a hash: it, how many bytes it has, the error. -/
def goH (l : List UInt8) : (Nat → UInt8) × Nat × Nat := if l.length < 32 then (fun _ => 0, 0, 3) else (bAt l, 32, 0)
theorem results_row3 {P : Program} {w : World} {b : Nat} {t : TypeId} {n : Nat} {f : Nat → Value} {e : TypeId} {m : Nat} {fn : Func} {p u v : Tmp} {ty : TypeId} (hf : fn.results = #[.cell p ty, .tmp u, .tmp v]) (tmps : Array Value) (hp : tmps.getD p undef = .pointer (some ⟨b, 0, none⟩))
    (h : w.rowIs b t n f) (hu : P.underlying ty = some (.array m e)) (hi : (P.info? ty).map (·.size) = some n) : (results fn tmps).run P w = .ok (.tuple #[.agg (rowA n f), tmps.getD u undef, tmps.getD v undef]) w := by
  have := load_row (P := P) h hu hi
  have hp' : tmps[p]?.getD undef = .pointer (some ⟨b, 0, none⟩) := by simpa using hp
  simp [results, hf, hp', asAddr, this]
theorem rdV_none {W W' : World} {L L' : List Nat} {v : Value} (h : RdV W L v []) : RdV W' L' v [] := by
  obtain ⟨A, c, hv, h1, h2, _⟩ := h
  exact ⟨A, c, hv, h1, h2, fun h => absurd h (by simp)⟩
/-- A whole array is stored into a row. -/
theorem wpList_store_row {P : Program} {ops : Array Oper} {rest : List Oper} {op : Oper} {a : Act} {w : World} {Q : Exit → Act → World → Prop} (hgd : op.guard = none) (ty : TypeId) (x y : Operand) (ho : op.op = .store ty x y)
    (g n : Nat) (D : Nat → UInt8) (hx : a.eval x = .pointer (some ⟨g, 0, none⟩)) (hy : a.eval y = .agg (rowA n (bF D))) {t' : TypeId} {f0 : Nat → Value} (hr : w.rowIs g t' n f0) (hi : (P.info? ty).map (·.size) = some n)
    (h : ∀ w', KeepBut [g] w w' → (∀ B, B ≤ g → Below B w w') → w'.rowIs g t' n (bF D) → wpList P ops Q rest (a.put op.dst undef) w') : wpList P ops Q (op :: rest) a w :=
  wpList_store_mid hgd ty x y ho g 0 (rowA n (bF D)) hx hy (by rw [rowA_size]; exact there_row hr) (by rw [rowA_size]; exact hi) (rowA_one _ _ fun _ => rfl)
    (h _ (KeepBut.setCells (by simp) _ _ _) (fun B hB => below_setCells g hB _ _ _ (Below.refl _ _)) (rowIs_setAll hr (bF D)))
/-- What a hash that is asked for turns a reader that isn't bad to. -/
def outH (l : List UInt8) : (Nat → UInt8) × List UInt8 × Nat := if l.length < 32 then (fun _ => 0, [], 3) else (bAt l, l.drop 32, 0)
/-- Blocks that came behind W are written, and R: to whoever looks from W on, a step that writes R alone. -/
theorem RT.late {R g : Nat} {W w w' : World} (h : RT R W w) (hg : W.heap.size ≤ g) (hR : R < W.heap.size) (hK : KeepBut [g] w w') (hB : ∀ B, B ≤ g → Below B w w') : RT R W w' :=
  ⟨h.below.trans (hB R (by omega)), Nat.le_trans h.keep.1 hK.1, fun k o hk ho hc => hK.2 k o (by have := (Array.getElem?_eq_some_iff.1 ho).1; simp; omega) (h.keep.2 k o hk ho hc) hc⟩
end Go.Proofs.YtcfogkimjbgjgaaDoor
/- Layer 3, words that later layers share: bytes as strings; slices of slices; what is read of what was put; a reader in a region. -/
namespace Go.Proofs.YtcfogkimjbgjgaaDoor
open Go Go.RowKit
set_option maxRecDepth 8000
set_option linter.all false
theorem rdV_form' {W : World} {L : List Nat} {v : Value} {l : List UInt8} (h : RdV W L v l) : ∃ A n cap, v = .slice A n cap ∧ Hid (l.length = n) := by
  obtain ⟨A, cap, hv, _⟩ := h; exact ⟨A, l.length, cap, hv, Lib.hid rfl⟩
/-- A slice of bytes becomes a string. -/
theorem conv_rd {w : World} {L : List Nat} {v : Value} {l : List UInt8} (h : RdV w L v l) : (convert 28 9 v).run Tryd.prog w = .ok (.string ⟨l.toArray⟩) w := by
  obtain ⟨A, cap, rfl, h1, h2, h3⟩ := h
  by_cases h0 : 0 < l.length
  · obtain ⟨b, o, rfl, _, hc⟩ := h3 h0
    have := run_convert_bytes_arg (P := Tryd.prog) w 28 5 Tryd.underlying28 Tryd.underlying5 b o l.length cap (l.map bN) (by simp) (fun i hi => by
      rw [hc i hi]
      simp [bAt, hi]) 9 Tryd.underlying9
    rw [this]
    have e : strOfNums (l.map bN) = ⟨l.toArray⟩ := by
      unfold strOfNums
      congr 2
      rw [List.map_map]
      conv => rhs; rw [← List.map_id l]
      exact List.map_congr_left fun b _ => by simp [bN]
    rw [e]
  · have : l = [] := List.eq_nil_of_length_eq_zero (by omega)
    subst this
    simp only [List.length_nil]
    simp [convert, run_underlying Tryd.underlying28, run_underlying Tryd.underlying9, run_underlying Tryd.underlying5, Conv.bytesToString]
    cases A <;> simp [go_sem] <;> rfl
theorem parts4 {W : World} {v1 v2 v3 v4 : Value} {l1 l2 l3 l4 : List UInt8} (h1 : RdV W [] v1 l1) (h2 : RdV W [] v2 l2) (h3 : RdV W [] v3 l3) (h4 : RdV W [] v4 l4) : Parts (W.alloc (.cells #[v1, v2, v3, v4] 28)) (.slice (some ⟨W.heap.size, 0, none⟩) 4 4) [l1, l2, l3, l4] :=
  ⟨[(v1, l1), (v2, l2), (v3, l3), (v4, l4)], parts_new [(v1, l1), (v2, l2), (v3, l3), (v4, l4)] 28 (by simp) (by simp) (by simp; exact ⟨h1, h2, h3, h4⟩), rfl⟩
theorem parts5 {W : World} {v1 v2 v3 v4 v5 : Value} {l1 l2 l3 l4 l5 : List UInt8} (h1 : RdV W [] v1 l1) (h2 : RdV W [] v2 l2) (h3 : RdV W [] v3 l3) (h4 : RdV W [] v4 l4) (h5 : RdV W [] v5 l5) : Parts (W.alloc (.cells #[v1, v2, v3, v4, v5] 28)) (.slice (some ⟨W.heap.size, 0, none⟩) 5 5) [l1, l2, l3, l4, l5] :=
  ⟨[(v1, l1), (v2, l2), (v3, l3), (v4, l4), (v5, l5)], parts_new [(v1, l1), (v2, l2), (v3, l3), (v4, l4), (v5, l5)] 28 (by simp) (by simp) (by simp; exact ⟨h1, h2, h3, h4, h5⟩), rfl⟩
/-- The first m bytes. -/
theorem rd_to {w : World} {L : List Nat} {A : Option Addr} {n cap m : Nat} {l : List UInt8} (h : RdV w L (.slice A n cap) l) (hm : m ≤ n) : RdV w L (.slice A m cap) (l.take m) := by
  obtain ⟨A', c, hv, h1, h2, h3⟩ := h
  cases hv
  have hlen : (l.take m).length = m := by simp; omega
  refine ⟨A, cap, by rw [hlen], by rw [hlen]; omega, h2, fun h0 => ?_⟩
  rw [hlen] at h0
  obtain ⟨b, o, hA, hb, hc⟩ := h3 (by omega)
  refine ⟨b, o, hA, hb, fun i hi => ?_⟩
  rw [hlen] at hi
  rw [hc i (by omega)]
  simp [bAt, hi]
theorem opr_slice_upto {a : Act} {w : World} {o : Oper} {K : Act → World → Prop} {Q : Exit → Act → World → Prop} {x y : Operand} {A : Option Addr} {n cap m : Nat} (ho : o.op = .slice 28 x none (some y) none) (hx : a.eval x = .slice A n cap) (hy : a.eval y = .int .i64 (m : Int)) (hm : m ≤ cap) (h : K (a.put o.dst (.slice A m cap)) w) : o.wp Tryd.prog a w K Q := by
  obtain ⟨dst, op, type, pos, after, guard⟩ := o
  simp only at ho
  subst ho
  refine opr_val (s := Instr.sliceAt 28 (a.eval x) none (some (a.eval y)) none) rfl ?_ h
  rw [hx, hy]
  have := slice_to A n cap m hm w
  simpa [Instr.sliceAt, run_underlying Tryd.underlying28] using this
theorem ownsRow_newT {w w' : World} {base : Nat} {e : TypeId} {v : Value} {n : Nat} {xs : List Value} (h : w.ownsRow base e 1 v n xs) (hN : NewT w w') : w'.ownsRow base e 1 v n xs := by
  obtain ⟨h1, h2⟩ := h
  refine ⟨h1, ?_⟩
  rcases h2 with h | ⟨g, cap, cur, hv, hb, hh, r⟩
  · exact .inl h
  · exact .inr ⟨g, cap, cur, hv, hb, (hN.out.block g (Array.getElem?_eq_some_iff.1 hh).1).trans hh, r⟩
theorem outN_put (x : Nat) (hx : x ≤ 2147483647) (r : List UInt8) : outN (numL x ++ r) = (x, r, 0) := by
  unfold outN
  rw [goN_put x hx r]
  simp only [if_true]
  rw [← numL_length x]; simp
/-- It reads as l, whatever a reader R does. -/
def svRdR (R : Nat) (l : List UInt8) : SV (RT R) := ⟨fun v w => RdV w [R] v l, fun _ _ _ h hT => hT.rd h⟩
theorem run_bs5 (v1 v2 v3 v4 v5 : Value) (h1 : ∃ A n c, v1 = .slice A n c) (h2 : ∃ A n c, v2 = .slice A n c) (h3 : ∃ A n c, v3 = .slice A n c) (h4 : ∃ A n c, v4 = .slice A n c) (h5 : ∃ A n c, v5 = .slice A n c) (w : World) : (Instr.buildSlice 68 5 #[(0, v1), (1, v2), (2, v3), (3, v4), (4, v5)]).run Tryd.prog w = .ok (.slice (some ⟨w.heap.size, 0, none⟩) 5 5) (w.alloc (.cells #[v1, v2, v3, v4, v5] 28)) := by
  obtain ⟨_, _, _, rfl⟩ := h1
  obtain ⟨_, _, _, rfl⟩ := h2
  obtain ⟨_, _, _, rfl⟩ := h3
  obtain ⟨_, _, _, rfl⟩ := h4
  obtain ⟨_, _, _, rfl⟩ := h5
  simp [go_sem]
theorem rd_is {w : World} {L : List Nat} {v : Value} {l : List UInt8} (h : RdV w L v l) : ∃ A n c, v = .slice A n c := by obtain ⟨A, c, hv, _⟩ := h; exact ⟨A, _, c, hv⟩
theorem opr_bs5 {a : Act} {w : World} {o : Oper} {K : Act → World → Prop} {Q : Exit → Act → World → Prop} {x1 x2 x3 x4 x5 : Operand} {l1 l2 l3 l4 l5 : List UInt8} (ho : o.op = .buildSlice 68 5 #[(0, x1), (1, x2), (2, x3), (3, x4), (4, x5)]) (h1 : RdV w [] (a.eval x1) l1) (h2 : RdV w [] (a.eval x2) l2) (h3 : RdV w [] (a.eval x3) l3) (h4 : RdV w [] (a.eval x4) l4) (h5 : RdV w [] (a.eval x5) l5) (h : ∀ v w', NewT w w' → Parts w' v [l1, l2, l3, l4, l5] → K (a.put o.dst v) w') : o.wp Tryd.prog a w K Q := by
  obtain ⟨dst, op, type, pos, after, guard⟩ := o
  simp only at ho
  subst ho
  exact opr_val (s := Instr.buildSlice 68 5 #[(0, a.eval x1), (1, a.eval x2), (2, a.eval x3), (3, a.eval x4), (4, a.eval x5)]) (by simp [execOp]) (run_bs5 _ _ _ _ _ (rd_is h1) (rd_is h2) (rd_is h3) (rd_is h4) (rd_is h5) w) (h _ _ (NewT.alloc _ _) (parts5 h1 h2 h3 h4 h5))
theorem opr_eql_bool {a : Act} {w : World} {o : Oper} {K : Act → World → Prop} {Q : Exit → Act → World → Prop} {x y : Operand} {t' : TypeId} {q : Bool} (ho : o.op = .binOp .eql 4 x y t') (hx : a.eval x = .bool q) (hy : a.eval y = .bool q) (h : K (a.put o.dst (.bool true)) w) : o.wp Tryd.prog a w K Q := by
  obtain ⟨dst, op, type, pos, after, guard⟩ := o
  simp only at ho
  subst ho
  refine opr_val (s := do eqGuard .eql 4 x y (a.eval x) (a.eval y); binOp .eql 4 (a.eval x) (a.eval y)) rfl ?_ h
  rw [hx, hy]
  cases q <;> simp [go_sem]
theorem outQ_put (q : Bool) (r : List UInt8) : outQ (cond q 1 0 :: r) = (q, r, 0) := by cases q <;> rfl
theorem outB_put (l r : List UInt8) (hl : l.length ≤ 1000000) : outB (numL l.length ++ l ++ r) (l.length : Int) = (l, r, 0) := by
  have hg := goN_put l.length (by omega) (l ++ r)
  rw [← List.append_assoc] at hg
  have hd : (numL l.length ++ l ++ r).drop (sz l.length) = l ++ r := by
    rw [List.append_assoc, ← numL_length l.length]; simp
  have hB : goB (numL l.length ++ l ++ r) (l.length : Int) = (l, sz l.length + l.length, 0) := by
    unfold goB
    rw [hg]
    simp only
    rw [if_neg (by simp), if_neg (by omega), if_neg (by simp [numL_length]), hd]
    simp
  unfold outB
  rw [hB]
  simp only [if_true]
  rw [← List.drop_drop, hd]
  simp
theorem outH_put (d : Nat → UInt8) (r : List UInt8) : (outH (digL d ++ r)).2 = (r, 0) ∧ rowA 32 (bF (outH (digL d ++ r)).1) = rowA 32 (bF d) := by
  have hl : ¬ (digL d ++ r).length < 32 := by simp [digL_length]
  unfold outH
  rw [if_neg hl]
  refine ⟨?_, rowA_congr fun i hi => ?_⟩
  · have := digL_length d
    simp [← this]
  · rw [bF_at, bF_at]
    congr 2
    have h1 : i < (digL d).length := by rw [digL_length]; exact hi
    show (digL d ++ r).getD i 0 = d i
    rw [List.getD_eq_getElem?_getD, List.getElem?_append_left h1]
    simp [digL, hi]
/-- The last place of a row of the call's own is written. -/
theorem ownsRow_last {w : World} {base g n cap : Nat} {e : TypeId} {xs : List Value} {u : Value} (h : w.ownsRow base e 1 (.slice (some ⟨g, 0, none⟩) (n + 1) cap) (n + 1) (xs ++ [u])) (u' : Value) :
    (w.setCell ⟨g, n, none⟩ u').ownsRow base e 1 (.slice (some ⟨g, 0, none⟩) (n + 1) cap) (n + 1) (xs ++ [u']) := by
  obtain ⟨h1, h2⟩ := h
  have hx : xs.length = n := by simpa using h1
  rcases h2 with ⟨h, _⟩ | ⟨g', cap', cur, hv, hb, hh, hnc, hm, hs, ht⟩
  · cases h
  · cases hv
    refine ⟨by simpa using hx, .inr ⟨g, cap, cur.setIfInBounds n u', rfl, hb, by simp [World.setCell, Array.getElem?_modify, hh], hnc, hm, by simpa using hs, ?_⟩⟩
    have e1 : cur.toList.take n = xs := by
      have := congrArg (List.take n) ht
      rw [List.take_take, Nat.min_eq_left (by omega)] at this
      rw [this, List.take_append_of_le_length (by omega)]
      exact List.take_of_length_le (by omega)
    have hlt : n < cur.toList.length := by simp; omega
    rw [Nat.mul_one, Array.toList_setIfInBounds, List.take_add_one, List.take_set_of_le (Nat.le_refl _), e1]
    simp [show n < cur.size by omega]
theorem frozen_own {w : World} {base g n cap : Nat} {e : TypeId} {xs : List Value} (h : w.ownsRow base e 1 (.slice (some ⟨g, 0, none⟩) n cap) n xs) (i : Nat) : w.frozen? ⟨g, i, none⟩ = false := by
  obtain ⟨_, h2⟩ := h
  rcases h2 with ⟨h, _⟩ | ⟨g', cap', cur, hv, _, hh, _⟩
  · cases h
  · cases hv; simp [World.frozen?, hh]
theorem bN_uB (n : Nat) (h : n < 256) : bN (uB n) = (n : Int) := by rw [bN, toNat_uB]; omega
theorem Num_rd (n : Int) (l : List UInt8) (w : World) (h : numI n = l) : Cv 37 #[.int .i64 n] w (svRd l) :=
  Calls.mono (Num_cv n w) fun _ _ ⟨v, he, hN, hv⟩ => ⟨v, he, hN, by rw [h] at hv; exact hv [] (by simp)⟩
end Go.Proofs.YtcfogkimjbgjgaaDoor
/- Steps by value, new records and steps in memory, what a call hands back in a cell. -/
namespace Go.Proofs.YtcfogkimjbgjgaaDoor
open Go Go.RowKit
set_option maxRecDepth 8000
set_option linter.all false

/-- The cells of a step. -/
def stepF (s : Int × Int) (i : Nat) : Value := if i = 0 then .int .i64 s.1 else .int .i64 s.2
theorem info_step : (Tryd.prog.info? 74).map (·.size) = some 2 := by kernel_rfl
theorem run_alloc_rec (w : World) : (Instr.alloc 30 true (.tuple #[])).run Tryd.prog w = .ok (.pointer (some ⟨w.heap.size, 0, none⟩)) (w.alloc (.cells (rowA 109 (recF zR (.slice none 0 0) (.slice none 0 0))) 30)) := by kernel_rfl
theorem run_alloc_step (w : World) : (Instr.alloc 74 true (.tuple #[])).run Tryd.prog w = .ok (.pointer (some ⟨w.heap.size, 0, none⟩)) (w.alloc (.cells (rowA 2 (stepF (0, 0))) 74)) := by kernel_rfl
theorem recF_one (x : Rc) (sv dv : Value) (hs : sv.oneCell' = true) (hd : dv.oneCell' = true) (i : Nat) : (recF x sv dv i).oneCell' = true := by
  unfold recF bF
  repeat' split
  all_goals first | rfl | assumption
theorem stepF_one (s : Int × Int) (i : Nat) : (stepF s i).oneCell' = true := by unfold stepF; split <;> rfl
theorem oneP {w : World} {v : Value} {l : List (Int × Int)} (h : RdP w v l) : v.oneCell' = true := by obtain ⟨A, c, rfl, _⟩ := h; rfl
theorem oneR {w : World} {L : List Nat} {v : Value} {l : List UInt8} (h : RdV w L v l) : v.oneCell' = true := by obtain ⟨A, c, rfl, _⟩ := h; rfl
section
variable {a : Act} {w : World} {o : Oper} {K : Act → World → Prop} {Q : Exit → Act → World → Prop} {x y : Operand} {g : Nat}
theorem opr_idxS {b o0 n c k : Nat} (hk : k < n) (ho : o.op = .indexAddr 27 x y) (hx : a.eval x = .slice (some ⟨b, o0, none⟩) n c) (hy : a.eval y = .int .i64 (k : Int)) (h : K (a.put o.dst (.pointer (some ⟨b, o0 + 2 * k, none⟩))) w) : o.wp Tryd.prog a w K Q := by
  obtain ⟨dst, op, type, pos, after, guard⟩ := o
  simp only at ho
  subst ho
  refine opr_val (s := Instr.indexAt 27 (a.eval x) (a.eval y)) rfl ?_ h
  rw [hx, hy]
  have hsz : (sizeOf 74).run Tryd.prog w = .ok 2 w := by
    have hs := info_step
    cases hq : Tryd.prog.info? 74 with
    | none => simp [hq] at hs
    | some i => simp [hq] at hs; simp [sizeOf, typeInfo, hq, hs]
  simp [Instr.indexAt, asIntOf, run_underlying Tryd.underlying27, hk, Addr.add_mid, Nat.mul_comm]
theorem opr_ld2 {o0 : Nat} {s : Int × Int} (h0 : w.cell? ⟨g, o0, none⟩ = some (.int .i64 s.1)) (h1 : w.cell? ⟨g, o0 + 1, none⟩ = some (.int .i64 s.2)) (ho : o.op = .load 74 x) (hx : a.eval x = .pointer (some ⟨g, o0, none⟩)) (h : K (a.put o.dst (.agg (rowA 2 (stepF s)))) w) : o.wp Tryd.prog a w K Q := by
  refine wp_load_mid 74 x ho g o0 hx [.int .i64 s.1, .int .i64 s.2] _ (fun j v hv => ?_) Tryd.underlying74 rfl info_step h
  match j, hv with
  | 0, hv => simp at hv; subst hv; exact h0
  | 1, hv => simp at hv; subst hv; exact h1
theorem opr_ldSt {t' : TypeId} {s : Int × Int} (hr : w.rowIs g t' 2 (stepF s)) (ho : o.op = .load 74 x) (hx : a.eval x = .pointer (some ⟨g, 0, none⟩)) (h : K (a.put o.dst (.agg (rowA 2 (stepF s)))) w) : o.wp Tryd.prog a w K Q :=
  opr_ldm Tryd.underlying74 rfl info_step ho hx hr (by omega) (by rw [rowA_congr (g := stepF s) fun i _ => by rw [Nat.zero_add]]; exact h)
theorem eqType_step : Tryd.prog.eqGuardType Tryd.prog.depth 74 = false := by kernel_rfl
theorem equalIn_step (w : World) (s t : Int × Int) : (Op.equalIn 10000 74 (.agg (rowA 2 (stepF s))) (.agg (rowA 2 (stepF t)))).run Tryd.prog w = .ok (decide (s = t)) w := by
  rw [show rowA 2 (stepF s) = #[.int .i64 s.1, .int .i64 s.2] from rfl, show rowA 2 (stepF t) = #[.int .i64 t.1, .int .i64 t.2] from rfl]
  obtain ⟨s1, s2⟩ := s
  obtain ⟨t1, t2⟩ := t
  rw [run_equalIn_agg w 9999 74 _ _ (by kernel_rfl) (by kernel_rfl)]
  by_cases h1 : s1 = t1
  · by_cases h2 : s2 = t2
    · subst h1 h2; simp [go_sem]
    · subst h1; simp [go_sem, h2]
  · simp [go_sem, h1]
theorem opr_neqS {t2 : TypeId} {s t : Int × Int} {b : Bool} (hb : (!decide (s = t)) = b) (ho : o.op = .binOp .neq 74 x y t2) (hx : a.eval x = .agg (rowA 2 (stepF s))) (hy : a.eval y = .agg (rowA 2 (stepF t))) (h : K (a.put o.dst (.bool b)) w) : o.wp Tryd.prog a w K Q := by
  obtain ⟨dst, op', type, pos, after, guard⟩ := o
  simp only at ho
  subst ho hb
  refine opr_val (s := do eqGuard .neq 74 x y (a.eval x) (a.eval y); binOp .neq 74 (a.eval x) (a.eval y)) rfl ?_ h
  rw [hx, hy, Sem.run_bind, run_eqGuard_agg _ _ _ _ _ _ _ eqType_step]
  simp only [Result.andThen_ok]
  rw [run_neq_struct, equalIn_step]; rfl
end
/-- A pointer into a record that a region made. -/
def svPtr (F : Nat → Value) (off : Nat) : SV NewT := ⟨fun v w => ∃ g, v = .pointer (some ⟨g, off, none⟩) ∧ w.rowIs g 30 109 F, fun _ _ _ ⟨g, h1, h2⟩ hT => ⟨g, h1, hT.row h2⟩⟩
section
variable {a : Act} {w : World} {o : Oper} {K : Act → World → Prop} {Q : Exit → Act → World → Prop} {x : Operand} {F : Nat → Value} {off : Nat} {v : Value}
theorem opr_boxR (_hone : ∀ i, (F i).oneCell' = true) (ho : o.op = .box 30 x) (hx : a.eval x = .agg (rowA 109 F)) (h : ∀ v w', NewT w w' → (svPtr F 0).pred v w' → K (a.put o.dst v) w') : o.wp Tryd.prog a w K Q := by
  obtain ⟨dst, op, type, pos, after, guard⟩ := o
  simp only at ho
  subst ho
  refine opr_val (s := Instr.box 30 (a.eval x)) (w' := w.alloc (.cells (rowA 109 F) 30)) rfl ?_ (h _ _ (NewT.alloc _ _) ⟨w.heap.size, rfl, rowIs_box w _ 109 F⟩)
  rw [hx]
  simp [go_sem]
theorem opr_fldP {k : Nat} (hk : k < 16) (ho : o.op = .fieldAddr 30 x k) (hx : (svPtr F 0).pred (a.eval x) w) (h : ∀ v, (svPtr F (recOff k)).pred v w → K (a.put o.dst v) w) : o.wp Tryd.prog a w K Q := by
  obtain ⟨g, hg, hr⟩ := hx
  exact opr_fldR hk ho hg (h _ ⟨g, rfl, hr⟩)
theorem opr_ldIP (hx : (svPtr F off).pred (a.eval x) w) (hn : off < 109) (hv : F off = v) (ho : o.op = .load 3 x) (h : K (a.put o.dst v) w) : o.wp Tryd.prog a w K Q := by
  obtain ⟨g, hg, hr⟩ := hx
  exact opr_ldI hr hn hv ho hg h
theorem opr_ldQP (hx : (svPtr F off).pred (a.eval x) w) (hn : off < 109) (hv : F off = v) (ho : o.op = .load 4 x) (h : K (a.put o.dst v) w) : o.wp Tryd.prog a w K Q := by
  obtain ⟨g, hg, hr⟩ := hx
  exact opr_ldQ hr hn hv ho hg h
theorem opr_ldSP (hx : (svPtr F off).pred (a.eval x) w) (hn : off < 109) (hv : F off = v) (ho : o.op = .load 27 x) (h : K (a.put o.dst v) w) : o.wp Tryd.prog a w K Q := by
  obtain ⟨g, hg, hr⟩ := hx
  exact opr_ldS hr hn hv ho hg h
theorem opr_ldBP (hx : (svPtr F off).pred (a.eval x) w) (hn : off < 109) (hv : F off = v) (ho : o.op = .load 28 x) (h : K (a.put o.dst v) w) : o.wp Tryd.prog a w K Q := by
  obtain ⟨g, hg, hr⟩ := hx
  exact opr_ldB hr hn hv ho hg h
theorem opr_ldHP {d : Nat → UInt8} (hx : (svPtr F off).pred (a.eval x) w) (hn : off + 32 ≤ 109) (hv : ∀ j, j < 32 → F (off + j) = bF d j) (ho : o.op = .load 26 x) (h : K (a.put o.dst (.agg (rowA 32 (bF d)))) w) : o.wp Tryd.prog a w K Q := by
  obtain ⟨g, hg, hr⟩ := hx
  exact opr_ldH hr hn hv ho hg h
end
section
variable (x : Rc) (sv dv : Value) (i : Nat)
theorem rs_kind (n : Int) : recF { x with kind := n } sv dv i = if i = 0 then .int .i64 n else recF x sv dv i := by
  unfold recF; by_cases h : i = 0
  · subst h; rfl
  · simp only [h, if_false]
theorem rs_saga (n : Int) : recF { x with saga := n } sv dv i = if i = 1 then .int .i64 n else recF x sv dv i := by
  unfold recF; by_cases h : i = 1
  · subst h; rfl
  · simp only [h, if_false]
theorem rs_seq (n : Int) : recF { x with seq := n } sv dv i = if i = 2 then .int .i64 n else recF x sv dv i := by
  unfold recF; by_cases h : i = 2
  · subst h; rfl
  · simp only [h, if_false]
theorem rs_step (n : Int) : recF { x with step := n } sv dv i = if i = 3 then .int .i64 n else recF x sv dv i := by
  unfold recF; by_cases h : i = 3
  · subst h; rfl
  · simp only [h, if_false]
theorem rs_tr (n : Int) : recF { x with tr := n } sv dv i = if i = 4 then .int .i64 n else recF x sv dv i := by
  unfold recF; by_cases h : i = 4
  · subst h; rfl
  · simp only [h, if_false]
theorem rs_nd (n : Int) : recF { x with nd := n } sv dv i = if i = 7 then .int .i64 n else recF x sv dv i := by
  unfold recF; by_cases h : i = 7
  · subst h; rfl
  · simp only [h, if_false]
theorem rs_part (n : Int) : recF { x with part := n } sv dv i = if i = 8 then .int .i64 n else recF x sv dv i := by
  unfold recF; by_cases h : i = 8
  · subst h; rfl
  · simp only [h, if_false]
theorem rs_epoch (n : Int) : recF { x with epoch := n } sv dv i = if i = 9 then .int .i64 n else recF x sv dv i := by
  by_cases h : i = 9
  · subst h; rfl
  · rw [if_neg h]
    by_cases h10 : i < 10
    · have : i = 0 ∨ i = 1 ∨ i = 2 ∨ i = 3 ∨ i = 4 ∨ i = 5 ∨ i = 6 ∨ i = 7 ∨ i = 8 := by omega
      rcases this with rfl | rfl | rfl | rfl | rfl | rfl | rfl | rfl | rfl <;> rfl
    · unfold recF; simp only [h10, if_false]
theorem rs_back (n : Bool) : recF { x with back := n } sv dv i = if i = 5 then .bool n else recF x sv dv i := by
  unfold recF; by_cases h : i = 5
  · subst h; rfl
  · simp only [h, if_false]
theorem rs_good (n : Bool) : recF { x with good := n } sv dv i = if i = 6 then .bool n else recF x sv dv i := by
  unfold recF; by_cases h : i = 6
  · subst h; rfl
  · simp only [h, if_false]
theorem rs_gone (n : Bool) : recF { x with gone := n } sv dv i = if i = 76 then .bool n else recF x sv dv i := by
  unfold recF; by_cases h : i = 76
  · subst h; rfl
  · simp only [h, if_false]
theorem rs_steps (v : Value) : recF x v dv i = if i = 42 then v else recF x sv dv i := by
  unfold recF; by_cases h : i = 42
  · subst h; rfl
  · simp only [h, if_false]
theorem rs_data (v : Value) : recF x sv v i = if i = 43 then v else recF x sv dv i := by
  unfold recF; by_cases h : i = 43
  · subst h; rfl
  · simp only [h, if_false]
theorem rs_tag (d : Nat → UInt8) (hi : i < 109) : recF { x with tag := d } sv dv i = if 10 ≤ i ∧ i < 10 + 32 then bF d (i - 10) else recF x sv dv i := by
  by_cases h : 10 ≤ i ∧ i < 10 + 32
  · rw [if_pos h]; obtain ⟨j, rfl⟩ := Nat.exists_eq_add_of_le h.1; rw [recF_tag _ _ _ _ (by omega), Nat.add_sub_cancel_left]
  · rw [if_neg h]; unfold recF; by_cases h1 : i < 10
    · simp only [h1, if_true]
    · have h2 : ¬ i < 42 := by omega
      simp only [h1, h2, if_false]
theorem rs_salt (d : Nat → UInt8) (hi : i < 109) : recF { x with salt := d } sv dv i = if 44 ≤ i ∧ i < 44 + 32 then bF d (i - 44) else recF x sv dv i := by
  by_cases h : 44 ≤ i ∧ i < 44 + 32
  · rw [if_pos h]; obtain ⟨j, rfl⟩ := Nat.exists_eq_add_of_le h.1; rw [recF_salt _ _ _ _ (by omega), Nat.add_sub_cancel_left]
  · rw [if_neg h]; unfold recF; by_cases h1 : i < 10
    · simp only [h1, if_true]
    · by_cases h2 : i < 42
      · simp only [h1, h2, if_true, if_false]
      · by_cases h3 : i = 42
        · subst h3; rfl
        · by_cases h4 : i = 43
          · subst h4; rfl
          · have h5 : ¬ i < 76 := by omega
            simp only [h1, h2, h3, h4, h5, if_false]
theorem rs_com (d : Nat → UInt8) (hi : i < 109) : recF { x with com := d } sv dv i = if 77 ≤ i ∧ i < 77 + 32 then bF d (i - 77) else recF x sv dv i := by
  by_cases h : 77 ≤ i ∧ i < 77 + 32
  · rw [if_pos h]; obtain ⟨j, rfl⟩ := Nat.exists_eq_add_of_le h.1; rw [recF_com _ _ _ _ (by omega), Nat.add_sub_cancel_left]
  · rw [if_neg h]; unfold recF; by_cases h1 : i < 10
    · simp only [h1, if_true]
    · by_cases h2 : i < 42
      · simp only [h1, h2, if_true, if_false]
      · by_cases h3 : i = 42
        · subst h3; rfl
        · by_cases h4 : i = 43
          · subst h4; rfl
          · by_cases h5 : i < 76
            · simp only [h1, h2, h3, h4, h5, if_true, if_false]
            · have h6 : i = 76 := by omega
              subst h6; rfl
end
theorem rdP_nil (w : World) : RdP w (.slice none 0 0) [] := ⟨none, 0, rfl, Nat.le_refl _, by unfold maxLen; omega, fun h => absurd h (by simp)⟩
theorem info_i1 : (Tryd.prog.info? 3).map (·.size) = some 1 := by kernel_rfl
theorem info_b1 : (Tryd.prog.info? 4).map (·.size) = some 1 := by kernel_rfl
theorem info_s1 : (Tryd.prog.info? 27).map (·.size) = some 1 := by kernel_rfl
theorem info_d1 : (Tryd.prog.info? 28).map (·.size) = some 1 := by kernel_rfl
theorem build_kind (k : Int) (w : World) : (Instr.build 30 #[(0, .int .i64 k)]).run Tryd.prog w = .ok (.agg (rowA 109 (recF { zR with kind := k } (.slice none 0 0) (.slice none 0 0)))) w := by kernel_rfl
theorem opr_build {a : Act} {w : World} {o : Oper} {K : Act → World → Prop} {Q : Exit → Act → World → Prop} {t : TypeId} {parts : Array (Nat × Operand)} {pv : Array (Nat × Value)} {v : Value} (ho : o.op = .build t parts) (hp : parts.map (fun (i, x) => (i, a.eval x)) = pv) (hr : (Instr.build t pv).run Tryd.prog w = .ok v w) (h : K (a.put o.dst v) w) : o.wp Tryd.prog a w K Q := by
  obtain ⟨dst, op, type, pos, after, guard⟩ := o
  simp only at ho
  subst ho hp
  exact opr_val (s := Instr.build t (parts.map fun (i, x) => (i, a.eval x))) rfl hr h
end Go.Proofs.YtcfogkimjbgjgaaDoor
/- Numbers of 64 bits that hold numbers of 32, as the reference computes; and the reference's turns and shifts. -/
namespace Go.Proofs.YtcfogkimjbgjgaaDoor
open Go.RowKit
set_option maxRecDepth 8000
set_option linter.all false

theorem wrap_u64 (n : Int) : IntKind.u64.wrap n = n % 18446744073709551616 := by simp [IntKind.wrap, IntKind.bits, IntKind.signed]
theorem wrap64_uN (x : BitVec 32) : IntKind.u64.wrap (uN x) = uN x := by rw [wrap_u64]; have := uN_lt x; omega
theorem wrap64_bN (x : UInt8) : IntKind.u64.wrap (bN x) = bN x := by rw [wrap_u64]; have := bN_lt x; omega
theorem or64 (a b : Nat) (ha : a < 2 ^ 64) (hb : b < 2 ^ 64) : bits .or .u64 (a : Int) (b : Int) = ((a ||| b : Nat) : Int) := by
  show IntKind.u64.wrap (((BitVec.ofInt 64 (a : Int) ||| BitVec.ofInt 64 (b : Int)).toNat : Nat) : Int) = _
  rw [BitVec.ofInt_natCast, BitVec.ofInt_natCast, BitVec.toNat_or, BitVec.toNat_ofNat, BitVec.toNat_ofNat, Nat.mod_eq_of_lt ha, Nat.mod_eq_of_lt hb, wrap_u64]
  have := Nat.or_lt_two_pow ha hb
  omega
theorem xor64 (a b : Nat) (ha : a < 2 ^ 64) (hb : b < 2 ^ 64) : bits .xor .u64 (a : Int) (b : Int) = ((a ^^^ b : Nat) : Int) := by
  show IntKind.u64.wrap (((BitVec.ofInt 64 (a : Int) ^^^ BitVec.ofInt 64 (b : Int)).toNat : Nat) : Int) = _
  rw [BitVec.ofInt_natCast, BitVec.ofInt_natCast, BitVec.toNat_xor, BitVec.toNat_ofNat, BitVec.toNat_ofNat, Nat.mod_eq_of_lt ha, Nat.mod_eq_of_lt hb, wrap_u64]
  have := Nat.xor_lt_two_pow ha hb
  omega
theorem and64 (a b : Nat) (ha : a < 2 ^ 64) (hb : b < 2 ^ 64) : bits .and .u64 (a : Int) (b : Int) = ((a &&& b : Nat) : Int) := by
  show IntKind.u64.wrap (((BitVec.ofInt 64 (a : Int) &&& BitVec.ofInt 64 (b : Int)).toNat : Nat) : Int) = _
  rw [BitVec.ofInt_natCast, BitVec.ofInt_natCast, BitVec.toNat_and, BitVec.toNat_ofNat, BitVec.toNat_ofNat, Nat.mod_eq_of_lt ha, Nat.mod_eq_of_lt hb, wrap_u64]
  have := Nat.and_lt_two_pow a hb
  omega
theorem lt64 (x : BitVec 32) : x.toNat < 2 ^ 64 := by omega
theorem u64_xor (x y : BitVec 32) : bits .xor .u64 (uN x) (uN y) = uN (x ^^^ y) := by
  unfold uN; rw [xor64 _ _ (lt64 x) (lt64 y), BitVec.toNat_xor]
theorem u64_and (x y : BitVec 32) : bits .and .u64 (uN x) (uN y) = uN (x &&& y) := by
  unfold uN; rw [and64 _ _ (lt64 x) (lt64 y), BitVec.toNat_and]
theorem u64_not (x : BitVec 32) : IntKind.u64.wrap ((4294967295 : Int) - uN x) = uN (~~~x) := by
  rw [wrap_u64]; unfold uN; rw [BitVec.toNat_not]; omega
/-- A sum of numbers of 32 bits, not cut. -/
def tN (l : List (BitVec 32)) : Int := ((l.map BitVec.toNat).sum : Nat)
theorem u64_add2 (a b : BitVec 32) : IntKind.u64.wrap (uN a + uN b) = tN [a, b] := by rw [wrap_u64]; simp [uN, tN]; omega
theorem u64_add3 (a b c : BitVec 32) : IntKind.u64.wrap (tN [a, b] + uN c) = tN [a, b, c] := by rw [wrap_u64]; simp [uN, tN]; omega
theorem u64_add4 (a b c d : BitVec 32) : IntKind.u64.wrap (tN [a, b, c] + uN d) = tN [a, b, c, d] := by rw [wrap_u64]; simp [uN, tN]; omega
theorem u64_add5 (a b c d e : BitVec 32) : IntKind.u64.wrap (tN [a, b, c, d] + uN e) = tN [a, b, c, d, e] := by rw [wrap_u64]; simp [uN, tN]; omega
theorem mod_t2 (a b : BitVec 32) : tN [a, b] % (4294967296 : Int) = uN (a + b) := by simp [uN, tN, BitVec.toNat_add]
theorem mod_t4 (a b c d : BitVec 32) : tN [a, b, c, d] % (4294967296 : Int) = uN (a + b + c + d) := by simp [uN, tN, BitVec.toNat_add]; omega
theorem mod_t5 (a b c d e : BitVec 32) : tN [a, b, c, d, e] % (4294967296 : Int) = uN (a + b + c + d + e) := by simp [uN, tN, BitVec.toNat_add]; omega
theorem u64_rot (x : BitVec 32) (m k : Nat) (hm : m < 32) (hk : k = 32 - m) : bits .or .u64 (uN (x >>> m)) (IntKind.u64.wrap (uN x * 2 ^ k)) % (4294967296 : Int) = uN (x.rotateRight m) := by
  have h1 : IntKind.u64.wrap (uN x * 2 ^ k) = ((x.toNat * 2 ^ k % 2 ^ 64 : Nat) : Int) := by rw [wrap_u64]; unfold uN; simp
  rw [h1]
  unfold uN
  rw [or64 _ _ (lt64 _) (Nat.mod_lt _ (by omega)), BitVec.rotateRight_def, Nat.mod_eq_of_lt hm, BitVec.toNat_or, ← hk]
  have h2 : ((x >>> m).toNat ||| x.toNat * 2 ^ k % 2 ^ 64) % 2 ^ 32 = (x >>> m).toNat ||| (x <<< k).toNat := by
    rw [Nat.or_mod_two_pow, Nat.mod_eq_of_lt (x >>> m).isLt, Nat.mod_mod_of_dvd _ (by decide), BitVec.toNat_shiftLeft, Nat.shiftLeft_eq]
  omega
theorem tN_nonneg (l : List (BitVec 32)) : 0 ≤ tN l := by unfold tN; omega
theorem tmod_t2 (a b : BitVec 32) : (tN [a, b]).tmod (4294967296 : Int) = uN (a + b) := by rw [Int.tmod_eq_emod_of_nonneg (tN_nonneg _), mod_t2]
theorem tmod_t4 (a b c d : BitVec 32) : (tN [a, b, c, d]).tmod (4294967296 : Int) = uN (a + b + c + d) := by rw [Int.tmod_eq_emod_of_nonneg (tN_nonneg _), mod_t4]
theorem tmod_t5 (a b c d e : BitVec 32) : (tN [a, b, c, d, e]).tmod (4294967296 : Int) = uN (a + b + c + d + e) := by rw [Int.tmod_eq_emod_of_nonneg (tN_nonneg _), mod_t5]
theorem u64_rott (x : BitVec 32) (m k : Nat) (hm : m < 32) (hk : k = 32 - m) : (bits .or .u64 (uN (x >>> m)) (IntKind.u64.wrap (uN x * 2 ^ k))).tmod (4294967296 : Int) = uN (x.rotateRight m) := by
  have h1 : IntKind.u64.wrap (uN x * 2 ^ k) = ((x.toNat * 2 ^ k % 2 ^ 64 : Nat) : Int) := by rw [wrap_u64]; unfold uN; simp
  have h0 : 0 ≤ bits .or .u64 (uN (x >>> m)) (IntKind.u64.wrap (uN x * 2 ^ k)) := by
    rw [h1]; unfold uN; rw [or64 _ _ (lt64 _) (Nat.mod_lt _ (by omega))]; omega
  rw [Int.tmod_eq_emod_of_nonneg h0, u64_rot x m k hm hk]
attribute [local go_sem] u32_shr wrap64_uN
set_option maxHeartbeats 400000 in
theorem right_any (x : BitVec 32) (n : Int) (hn : 0 < n) (hn2 : n < 32) (w : World) :
    Calls Tryd.prog 80 #[.int .u64 (uN x), .int .i64 n] w fun e w' => e = .returned (.int .u64 (uN (x.rotateRight n.toNat))) ∧ w = w' := by
  obtain ⟨m, rfl⟩ := Int.eq_ofNat_of_zero_le (Int.le_of_lt hn)
  rw [Int.toNat_natCast]
  have e32 : (32 : Int) - (m : Int) = ((32 - m : Nat) : Int) := by omega
  obtain ⟨k, hk⟩ : ∃ k, k = 32 - m := ⟨_, rfl⟩
  rw [← hk] at e32
  have hr := u64_rott x m k (by omega) hk
  have hk1 : k < 32 := by omega
  have Hk := Lib.hid hk
  clear hk
  go_enter Tryd.func80, Tryd.ntmps80
  go_wp2
  go_ret
  exact ⟨rfl, rfl⟩
set_option maxHeartbeats 400000 in
theorem shift_any (x : BitVec 32) (n : Int) (hn : 0 < n) (hn2 : n < 32) (w : World) :
    Calls Tryd.prog 81 #[.int .u64 (uN x), .int .i64 n] w fun e w' => e = .returned (.int .u64 (uN (x >>> n.toNat))) ∧ w = w' := by
  obtain ⟨m, rfl⟩ := Int.eq_ofNat_of_zero_le (Int.le_of_lt hn)
  rw [Int.toNat_natCast]
  go_enter Tryd.func81, Tryd.ntmps81
  go_wp2
  go_ret
  exact ⟨rfl, rfl⟩
end Go.Proofs.YtcfogkimjbgjgaaDoor
/- Package mac's small functions: numbers as bytes, the key's block, its masks: what each call returns, and that it makes new memory alone. -/
namespace Go.Proofs.YtcfogkimjbgjgaaDoor
open Go Go.RowKit
set_option maxRecDepth 8000
set_option linter.all false

theorem u8_xor (x y : UInt8) : bits .xor .u8 (bN x) (bN y) = bN (x ^^^ y) := by
  have h : ∀ a b : BitVec 8, bits .xor .u8 ((a.toNat : Nat) : Int) ((b.toNat : Nat) : Int) = (((a ^^^ b).toNat : Nat) : Int) := by
    intro a b
    show IntKind.u8.wrap ((BitVec.ofInt 8 ((a.toNat : Nat) : Int) ^^^ BitVec.ofInt 8 ((b.toNat : Nat) : Int)).toNat : Int) = _
    simp only [BitVec.ofInt_natCast, BitVec.ofNat_toNat, BitVec.setWidth_eq]
    rw [wrap_u8]; have := (a ^^^ b).isLt; omega
  exact h x.toBitVec y.toBitVec
/-- The lowest s bytes of a number, the highest first. -/
def hiB (n s i : Nat) : UInt8 := UInt8.ofNat (n / 2 ^ (8 * (s - 1 - i)))
def hiL (n s : Nat) : List UInt8 := (List.range s).map (hiB n s)
theorem hiL_length (n s : Nat) : (hiL n s).length = s := by simp [hiL]
theorem hiB_eq (n s i : Nat) : IntKind.u8.wrap ((n : Int) / 2 ^ (8 * (s - 1 - i))) = bN (hiB n s i) := by
  rw [wrap_u8, hiB, bN, UInt8.toNat_ofNat']
  have h2 : ((2 : Int) ^ (8 * (s - 1 - i))) = ((2 ^ (8 * (s - 1 - i)) : Nat) : Int) := by simp
  rw [h2, ← Int.natCast_ediv]
  omega
set_option maxHeartbeats 1000000 in
theorem hiF_any (n s : Nat) (hs : 1 ≤ s) (hs2 : s ≤ 8) (w : World) :
    Cv 60 #[.int .u64 (n : Int), .int .i64 (s : Int)] w (svRdN w (hiL n s)) := by
  unfold Cv
  obtain ⟨i0, hi, hz0, hz1, hz2⟩ := info_parts info5
  have hmk : ∀ W : World, (Instr.makeSlice 28 (.int .i64 (s : Int)) (.int .i64 (s : Int))).run Tryd.prog W = .ok (.slice (some ⟨W.heap.size, 0, none⟩) s s) (W.alloc (.cells (rowA s (bF fun _ => 0)) 5)) := make_bytes i0 hi hz0 hz1 hz2 s (by omega)
  have HB := Lib.hid (hiB_eq n s)
  clear hi hz0 hz1 hz2
  go_enter Tryd.func60, Tryd.ntmps60
  go_wp2
  have r0 := rowIs_box w 5 s (bF fun _ => 0)
  have hB : Below w.heap.size w (w.alloc (.cells (rowA s (bF fun _ => 0)) 5)) := (Below.refl _ w).alloc (Nat.le_refl _) _
  generalize w.alloc (.cells (rowA s (bF fun _ => 0)) 5) = W0 at r0 hB ⊢
  clear hmk
  go_loopw [11] (fun i wr => ∃ k : Nat, k ≤ s ∧ i = .int .i64 k ∧ wr.rowIs w.heap.size 5 s (bF (putTo (hiB n s) k)) ∧ Below w.heap.size w wr) (fun i _ => s - (intOf i).toNat)
  case atStart => exact ⟨0, by omega, rfl, r0.congr fun i _ => by simp [bF, putTo], hB⟩
  case round =>
    obtain ⟨k, hk, rfl, q0, qB⟩ := hrel
    clear r0 hB
    by_cases hlt : k < s
    · have c0 := q0.cell (i := k) hlt
      have f0 := q0.frozen k
      have e8 : ((8 : Int) * ((s : Int) - 1 - (k : Int))).toNat = 8 * (s - 1 - k) := by omega
      have hb8 := HB.out k
      go_wp2
      go_roundw
      case rel => exact ⟨k + 1, by omega, by go_num, (q0.set k _).congr fun i _ => putTo_set _ k i, qB.setCell (by simp) _⟩
      case measure => simp [intOf]; omega
    · obtain rfl : k = s := by omega
      go_wp2
      go_ret
      refine ⟨_, rfl, qB, fun L hL => ?_⟩
      have := rd_row (L := L) q0 (fun hm => by have := hL _ hm; omega) (by omega)
      have e : (List.range k).map (putTo (hiB n k) k) = hiL n k := List.map_congr_left fun i hi => by simp at hi; simp [putTo, hi]
      rw [e] at this
      exact this
theorem hiF_4 (n : Nat) (w : World) : Cv 60 #[.int .u64 (n : Int), .int .i64 4] w (svRdN w (hiL n 4)) := hiF_any n 4 (by omega) (by omega) w
theorem hiF_8 (n : Nat) (w : World) : Cv 60 #[.int .u64 (n : Int), .int .i64 8] w (svRdN w (hiL n 8)) := hiF_any n 8 (by omega) (by omega) w
end Go.Proofs.YtcfogkimjbgjgaaDoor
/- Package sha, more: blocks of a text, one by one. -/
namespace Go.Proofs.YtcfogkimjbgjgaaDoor
open Go.RowKit
set_option maxRecDepth 8000
set_option linter.all false
attribute [local go_sem] uF_at
set_option maxHeartbeats 1000000 in
/-- A block that hasn't 64 bytes turns nothing. -/
theorem Turn_no (s : Nat → BitVec 32) (A : Option Addr) (n cap : Nat) (hn : n ≠ 64) (w : World) :
    Calls Tryd.prog 71 #[.agg (rowA 8 (uF s)), .slice A n cap] w fun e w' => e = .returned (.agg (rowA 8 (uF s))) ∧ Below w.heap.size w w' := by
  have hn2 : ((n : Int) == 64) = false := by simp; omega
  have r0 := (rowIs_box w 98 8 (uF s)).alloc (.cells (rowA 8 fun _ => .int .u32 0) 98)
  have r1 := rowIs_box (w.alloc (.cells (rowA 8 (uF s)) 98)) 98 8 fun _ => .int .u32 0
  have hB : Below w.heap.size w ((w.alloc (.cells (rowA 8 (uF s)) 98)).alloc (.cells (rowA 8 fun _ => .int .u32 0) 98)) :=
    ((Below.refl _ w).alloc (Nat.le_refl _) _).alloc (by simp) _
  rw [World.size_alloc] at r1
  have hR := rangeAt_row r0
  go_enter Tryd.func71, Tryd.ntmps71
  go_wp2_with (first
    | (refine wpList_load_mid rfl 98 (.tmp 2) rfl w.heap.size 0 rfl (rowA 8 (uF s)).toList _ hR Tryd.underlying98 rfl (by rw [rowA_toList]; simpa using info23) ?_)
    | (refine wpList_store_mid rfl 98 (.tmp 4) (.tmp 10) rfl (w.heap.size + 1) 0 (rowA 8 (uF s)) rfl rfl (by rw [rowA_size]; exact there_row r1) (by rw [rowA_size]; exact info23) (rowA_one _ _ fun _ => rfl) ?_))
  exact bodyPost_ret (results_row rfl _ rfl (rowIs_setAll r1 (uF s)) Tryd.underlying98 info23) rfl ⟨rfl, below_setCells _ (by omega) _ _ _ hB⟩
theorem word_back (x : BitVec 32) : (((((x >>> 24).setWidth 8).setWidth 32 <<< 24) ||| (((x >>> 16).setWidth 8).setWidth 32 <<< 16)) ||| (((x >>> 8).setWidth 8).setWidth 32 <<< 8)) ||| ((x >>> 0).setWidth 8).setWidth 32 = x := by
  apply BitVec.eq_of_getLsbD_eq
  intro i hi
  simp only [BitVec.getLsbD_or, BitVec.getLsbD_shiftLeft, BitVec.getLsbD_setWidth, BitVec.getLsbD_ushiftRight]
  by_cases h1 : i < 8
  · simp [h1, show i < 16 by omega, show i < 24 by omega, hi]
  · by_cases h2 : i < 16
    · simp [h1, h2, show i < 24 by omega, hi, show i - 8 < 8 by omega, show i - 8 < 32 by omega, show 8 + (i - 8) = i by omega]
    · by_cases h3 : i < 24
      · simp [h1, h2, h3, hi, show i - 16 < 8 by omega, show ¬ i - 8 < 8 by omega, show i - 16 < 32 by omega, show 16 + (i - 16) = i by omega]
      · simp [h1, h2, h3, hi, show i - 24 < 8 by omega, show ¬ i - 8 < 8 by omega, show ¬ i - 16 < 8 by omega, show i - 24 < 32 by omega, show 24 + (i - 24) = i by omega]
theorem dig_word (S : Nat → BitVec 32) (i : Nat) :
    ((((dig S (4 * i)).toBitVec.setWidth 32 <<< 24) ||| ((dig S (4 * i + 1)).toBitVec.setWidth 32 <<< 16)) ||| ((dig S (4 * i + 2)).toBitVec.setWidth 32 <<< 8)) ||| (dig S (4 * i + 3)).toBitVec.setWidth 32 = S i := by
  unfold dig
  rw [show 4 * i / 4 = i by omega, show (4 * i + 1) / 4 = i by omega, show (4 * i + 2) / 4 = i by omega, show (4 * i + 3) / 4 = i by omega,
    show 4 * i % 4 = 0 by omega, show (4 * i + 1) % 4 = 1 by omega, show (4 * i + 2) % 4 = 2 by omega, show (4 * i + 3) % 4 = 3 by omega]
  exact word_back (S i)
theorem slice_blk (b o n cap j : Nat) (h : j + 64 ≤ cap) (w : World) : (Instr.slice 28 (.slice (some ⟨b, o, none⟩) n cap) (some (.int .i64 (j : Int))) (some (.int .i64 ((j : Int) + 64))) none).run Tryd.prog w = .ok (.slice (some ⟨b, o + j, none⟩) 64 (cap - j)) w := by
  have hsz : (sizeOf 5).run Tryd.prog w = .ok 1 w := by
    obtain ⟨i0, hi, _, hz1, _⟩ := info_parts info5
    simp [sizeOf, typeInfo, hi, hz1]
  have h3 : (0 : Int) ≤ (j : Int) + 64 ∧ (j : Int) + 64 ≤ (cap : Int) := by omega
  have h4 : j ≤ ((j : Int) + 64).toNat := by omega
  have h6 : ((j : Int) + 64).toNat - j = 64 := by omega
  have h5 : cap ≠ j := by omega
  simp [Instr.slice, run_underlying Tryd.underlying28, Instr.sliceBounds, Instr.sliceBound, asIntOf, hsz, h3, h4, h5, h6, Addr.add_mid]
/-- A text's block. -/
def blk (c : List UInt8) (i : Nat) : List UInt8 := (c.drop (64 * i)).take 64
/-- The state behind the first blocks. -/
def sB (c : List UInt8) : Nat → Nat → BitVec 32
  | 0 => Fc
  | k + 1 => turnF Kc (sB c k) (blk c k)
theorem bAt_blk (c : List UInt8) (k i : Nat) (h : i < 64) : bAt (blk c k) i = bAt c (64 * k + i) := by
  simp [bAt, blk, h, List.getElem?_drop]
theorem sB_fold (c : List UInt8) (k : Nat) : ((List.range k).map (blk c)).foldl (turnF Kc) Fc = sB c k := by
  induction k with
  | zero => rfl
  | succ k ih => rw [List.range_succ, List.map_append, List.foldl_append, ih]; rfl
theorem sha_blocks (c : List UInt8) (m : Nat) (h : c.length = 64 * m) : shaL Kc Fc c = dig (turnF Kc (sB c m) (fillB c.length)) := by
  have hf : (fillB c.length).length = 64 := by rw [fillB_length, h]; simp
  obtain ⟨_, h2⟩ := rem_full c (fillB c.length) (by rw [hf]; omega)
  have hr : rem c = [] := by unfold rem; rw [show 64 * (c.length / 64) = c.length by omega]; simp
  rw [shaL, h2, hr, List.nil_append, List.foldl_append]
  have : cks c = (List.range m).map (blk c) := by unfold cks; rw [h, show 64 * m / 64 = m by omega]; rfl
  rw [this, sB_fold]; rfl
theorem info22s : (Tryd.prog.info? 97).map (·.size) = some 1 := by kernel_rfl
theorem equal_state (w : World) (d : Nat → BitVec 32) : (Op.equalIn 10000 98 (.agg (rowA 8 (uF d))) (.agg (rowA 8 (uF d)))).run Tryd.prog w = .ok true w :=
  equalIn_same w 9998 98 97 8 .u32 Tryd.underlying98 Tryd.underlying97 info22s (fun i => uN (d i))
theorem equal_state2 (w : World) (d : Nat → BitVec 32) : (Op.equalIn 10000 98 (.agg (rowA 8 (uF d))) (.agg #[.int .u32 (uN (d 0)), .int .u32 (uN (d 1)), .int .u32 (uN (d 2)), .int .u32 (uN (d 3)), .int .u32 (uN (d 4)), .int .u32 (uN (d 5)), .int .u32 (uN (d 6)), .int .u32 (uN (d 7))])).run Tryd.prog w = .ok true w := equal_state w d
theorem u32_mul16m (x : BitVec 32) : IntKind.u32.wrap (uN x * (16777216 : Int)) = uN (x <<< 24) := u32_shl x 24
theorem u32_mul65k (x : BitVec 32) : IntKind.u32.wrap (uN x * (65536 : Int)) = uN (x <<< 16) := u32_shl x 16
theorem Sum_new1 (v : Value) (l : List UInt8) (D : Nat → UInt8) (W : World) (hT : Tables W) (h : RdV W [] v l) (ht : l.length ≤ 4611686018427387904) (hD : shaL Kc Fc l = D) :
    Calls Tryd.prog 51 #[.slice (some ⟨W.heap.size, 0, none⟩) 1 1] (W.alloc (.cells #[v] 28)) fun e w' => e = .returned (.agg (rowA 32 (bF D))) ∧ Below W.heap.size W w' := by
  have hB := (Below.refl _ W).alloc (Nat.le_refl _) (.cells #[v] 28)
  refine (Sum_c _ [(v, l)] _ (hT.below hB) (parts_new [(v, l)] 28 (by simp) (by simp) (by simpa using h)) (by simpa [total] using ht)).mono ?_
  rintro e w' ⟨rfl, hb⟩
  rw [show flat [(v, l)] = l by simp [flat], hD]
  exact ⟨rfl, hB.trans (hb.mono hB.size)⟩
end Go.Proofs.YtcfogkimjbgjgaaDoor
/- Package mac: the key's masks, and its block. -/
namespace Go.Proofs.YtcfogkimjbgjgaaDoor
open Go Go.RowKit
set_option maxRecDepth 8000
set_option linter.all false
attribute [local go_sem] bF_at u8_xor

def maskTo (b : Nat → UInt8) (m : UInt8) (k i : Nat) : UInt8 := if i < k then b i ^^^ m else b i
theorem maskTo_set (b : Nat → UInt8) (m : UInt8) (k i : Nat) : (if i = k then Value.int .u8 (bN (b k ^^^ m)) else bF (maskTo b m k) i) = bF (maskTo b m (k + 1)) i := by
  simp only [bF, maskTo]
  by_cases h : i = k
  · subst h; simp
  · by_cases h2 : i < k
    · rw [if_neg h, if_pos h2, if_pos (by omega)]
    · rw [if_neg h, if_neg h2, if_neg (by omega)]
/-- A block, each byte put together with m. -/
def maskL (b : Nat → UInt8) (m : UInt8) : List UInt8 := (List.range 64).map fun i => b i ^^^ m
theorem maskL_length (b : Nat → UInt8) (m : UInt8) : (maskL b m).length = 64 := by simp [maskL]
theorem info64 : (Tryd.prog.info? 84).map (·.size) = some 64 := by kernel_rfl
theorem run_sliceAt_64 (w : World) (g : Nat) : (Instr.sliceAt 84 (.pointer (some ⟨g, 0, none⟩)) none none none).run Tryd.prog w = .ok (.slice (some ⟨g, 0, none⟩) 64 64) w := by
  have hsz : (sizeOf 5).run Tryd.prog w = .ok 1 w := by
    have hs := info5s
    cases hq : Tryd.prog.info? 5 with
    | none => simp [hq] at hs
    | some i => simp [hq] at hs; simp [sizeOf, typeInfo, hq, hs]
  simp [Instr.sliceAt, run_underlying Tryd.underlying84, Instr.sureAddr, Instr.sliceBounds, hsz, Addr.add_zero']
attribute [local go_sem] run_sliceAt_64
set_option maxHeartbeats 1000000 in
theorem masked_any (b : Nat → UInt8) (m : UInt8) (w : World) : Cv 55 #[.agg (rowA 64 (bF b)), .int .u8 (bN m)] w (svRd (maskL b m)) := by
  unfold Cv
  go_enter Tryd.func55, Tryd.ntmps55
  go_upto_region 1 with fail
  have r0 := rowIs_box w 84 64 (bF b)
  have hB : Below w.heap.size w (w.alloc (.cells (rowA 64 (bF b)) 84)) := (Below.refl _ w).alloc (Nat.le_refl _) _
  change Code.wp _ _ _ _ (w.alloc (.cells (rowA 64 (bF b)) 84))
  generalize w.alloc (.cells (rowA 64 (bF b)) 84) = W0 at r0 hB ⊢
  go_wp2
  go_loopw [6] (fun i wr => ∃ k : Nat, k ≤ 64 ∧ i = .int .i64 k ∧ wr.rowIs w.heap.size 84 64 (bF (maskTo b m k)) ∧ Below w.heap.size w wr) (fun i _ => 64 - (intOf i).toNat)
  case atStart => exact ⟨0, by omega, rfl, r0.congr fun i _ => by simp [bF, maskTo], hB⟩
  case round =>
    obtain ⟨k, hk, rfl, q0, qB⟩ := hrel
    clear r0 hB
    by_cases hlt : k < 64
    · have c0 := q0.cell (i := k) hlt
      rw [bF_at, show maskTo b m k k = b k by simp [maskTo]] at c0
      have f0 := q0.frozen k
      go_wp2
      go_roundw
      case rel => exact ⟨k + 1, by omega, by go_num, (q0.set k _).congr fun i _ => maskTo_set _ _ k i, qB.setCell (by simp) _⟩
      case measure => simp [intOf]; omega
    · obtain rfl : k = 64 := by omega
      go_wp2
      go_ret
      have := rd_row (L := []) q0 (by simp) (by omega)
      refine ⟨_, rfl, qB, ?_⟩
      have e : (List.range 64).map (maskTo b m 64) = maskL b m := List.map_congr_left fun i hi => by simp at hi; simp [maskTo, hi]
      rw [e] at this
      exact this
/-- A key as HMAC takes it. -/
def keyOf (l : List UInt8) : List UInt8 := if 64 < l.length then digL (shaL Kc Fc l) else l
theorem keyOf_length (l : List UInt8) : (keyOf l).length ≤ 64 := by
  unfold keyOf; split
  · rw [digL_length]; omega
  · omega
def keyB (l : List UInt8) (i : Nat) : UInt8 := bAt (keyOf l) i

/-- Bytes copied into a row that is new. -/
theorem opr_copy {B : Nat} {a : Act} {w W : World} {o : Oper} {K : Act → World → Prop} {Q : Exit → Act → World → Prop} {x y : Operand} {g n c : Nat} {t : TypeId} {f0 : Nat → UInt8} {l : List UInt8} {L : List Nat}
    (ho : o.op = .call { callee := .builtin .copy, args := #[x, y], argTypes := #[28, 28] }) (hx : a.eval x = .slice (some ⟨g, 0, none⟩) n c) (hy : RdV w L (a.eval y) l) (hl : l.length ≤ n) (hr : w.rowIs g t n (bF f0)) (hN : Below B W w) (hg : B ≤ g)
    (h : ∀ v w', Below B W w' → w'.rowIs g t n (bF fun i => if i < l.length then bAt l i else f0 i) → K (a.put o.dst v) w') : o.wp Tryd.prog a w K Q := by
  obtain ⟨dst, op, type, pos, after, guard⟩ := o
  simp only at ho
  subst ho
  obtain ⟨A, cap, hv, _, _, hc⟩ := hy
  have hex : execOp a.eval { dst, op := .call { callee := .builtin .copy, args := #[x, y], argTypes := #[28, 28] }, type, pos, after, guard } = (do pure (.value (← Builtin.copy_ #[28, 28] type #[a.eval x, a.eval y]))) := by
    show (do let d ← resolve a.eval { callee := .builtin .copy, args := #[x, y], argTypes := #[28, 28] } type; invoke d.target d.args) = _
    simp only [resolve, invoke, pure_bind, BigFrame.builtin_copy, List.map_toArray, List.map_cons, List.map_nil]
  by_cases h0 : l.length = 0
  · refine opr_val (s := Builtin.copy_ #[28, 28] type #[a.eval x, a.eval y]) (v := goInt 0) (w' := w) hex ?_ (h _ _ hN (hr.congr fun i _ => by simp [bF, h0]))
    rw [hx, hv]
    exact run_copy_none (P := Tryd.prog) w 28 28 type 5 _ _ _ _ _ _ Tryd.underlying28 info5s (by rw [h0]; exact Nat.zero_min _)
  · obtain ⟨b, o2, rfl, _, hcell⟩ := hc (by omega)
    have hlen : (l.map fun b => Value.int .u8 (bN b)).length = l.length := by simp
    refine opr_val (s := Builtin.copy_ #[28, 28] type #[a.eval x, a.eval y]) (v := goInt (l.map fun b => Value.int .u8 (bN b)).length) (w' := w.setCells g 0 (l.map fun b => Value.int .u8 (bN b))) hex ?_ (h _ _ (below_setCells g hg _ _ _ hN) ((rowIs_setCells_at hr _ 0).congr fun i hi => ?_))
    · rw [hx, hv]
      refine run_copy_cells (P := Tryd.prog) w 28 28 type 5 g 0 n c ⟨b, o2, none⟩ l.length cap _ Tryd.underlying28 info5s (by rw [hlen]; exact (Nat.min_eq_left hl).symm) (fun j v hj => ?_) (fun j hj => ?_) (fun j hj => ?_) (by simp [Value.oneCell'])
      · have hjl : j < l.length := by have := (List.getElem?_eq_some_iff.1 hj).1; simpa using this
        rw [map_at l j hjl] at hj
        rw [Addr.add_mid, hcell j hjl]; exact hj
      · rw [hlen] at hj; rw [Nat.zero_add, hr.cell (by omega)]; rfl
      · rw [Nat.zero_add]; exact hr.frozen j
    · rw [hlen]
      by_cases hil : i < l.length
      · simp [hil, bF, bAt]
      · simp [hil, bF]
theorem run_alloc_64 (w : World) : (Instr.alloc 84 true (.tuple #[])).run Tryd.prog w = .ok (.pointer (some ⟨w.heap.size, 0, none⟩)) (w.alloc (.cells (rowA 64 (bF fun _ => 0)) 84)) := by
  simp [go_sem]; rfl
theorem opr_alloc_64 {a : Act} {w : World} {o : Oper} {K : Act → World → Prop} {Q : Exit → Act → World → Prop} {W : World} (ho : o.op = .alloc 84) (hT : NewT W w) (h : ∀ v w', NewT w w' → (svNew W 84 64).pred v w' → K (a.put o.dst v) w') : o.wp Tryd.prog a w K Q := by
  obtain ⟨dst, op, type, pos, after, guard⟩ := o
  simp only at ho
  subst ho
  exact opr_val (s := Instr.alloc 84 true (.tuple #[])) rfl (run_alloc_64 w) (h _ _ (NewT.alloc _ _) ⟨w.heap.size, rfl, hT.out.size, rowIs_box w 84 64 _⟩)
theorem opr_load_64 {a : Act} {w : World} {o : Oper} {K : Act → World → Prop} {Q : Exit → Act → World → Prop} {x : Operand} {g : Nat} {t : TypeId} {d : Nat → UInt8} (ho : o.op = .load 84 x) (hx : a.eval x = .pointer (some ⟨g, 0, none⟩)) (hr : w.rowIs g t 64 (bF d)) (h : K (a.put o.dst (.agg (rowA 64 (bF d)))) w) : o.wp Tryd.prog a w K Q := by
  obtain ⟨dst, op, type, pos, after, guard⟩ := o
  simp only at ho
  subst ho
  refine opr_val (s := Instr.loadAt 84 (a.eval x)) rfl ?_ h
  rw [hx]
  have := run_loadAt_mid (P := Tryd.prog) w g 0 84 (rowA 64 (bF d)).toList _ (rangeAt_row hr) Tryd.underlying84 rfl (by rw [rowA_toList]; simpa using info64)
  simpa using this
theorem opr_slice_64 {a : Act} {w : World} {o : Oper} {K : Act → World → Prop} {Q : Exit → Act → World → Prop} {x : Operand} {g : Nat} (ho : o.op = .slice 84 x none none none) (hx : a.eval x = .pointer (some ⟨g, 0, none⟩)) (h : K (a.put o.dst (.slice (some ⟨g, 0, none⟩) 64 64)) w) : o.wp Tryd.prog a w K Q := by
  obtain ⟨dst, op, type, pos, after, guard⟩ := o
  simp only at ho
  subst ho
  refine opr_val (s := Instr.sliceAt 84 (a.eval x) none none none) rfl ?_ h
  rw [hx]; exact run_sliceAt_64 w g
end Go.Proofs.YtcfogkimjbgjgaaDoor
/- Package mac: the key's block. -/
namespace Go.Proofs.YtcfogkimjbgjgaaDoor
open Go Go.RowKit
set_option maxRecDepth 8000
set_option linter.all false
set_option maxHeartbeats 1000000 in
theorem keyBlock_short (A : Option Addr) (n c : Nat) (l : List UInt8) (w : World) (hr : RdV w [] (.slice A n c) l) (hl : l.length ≤ 64) :
    Cv 54 #[.slice A n c] w (.eq (.agg (rowA 64 (bF (keyB l))))) := by
  have hk : keyB l = bAt l := by unfold keyB keyOf; rw [if_neg (by omega)]
  rw [hk]
  unfold Cv
  have hn : l.length = n := by obtain ⟨_, _, hv, _⟩ := hr; cases hv; rfl
  subst hn
  have Hr := Lib.hid hr
  clear hr hk
  have hd : decide ((64 : Int) < (l.length : Int)) = false := by simp; omega
  go_enter Tryd.func54, Tryd.ntmps54
  go_upto_region 2 with fail
  have r0 := (rowIs_box w 84 64 (bF fun _ => 0)).alloc (.cells (rowA 64 (bF fun _ => 0)) 84)
  have r1 := rowIs_box (w.alloc (.cells (rowA 64 (bF fun _ => 0)) 84)) 84 64 (bF fun _ => 0)
  rw [World.size_alloc] at r1
  have hB : Below w.heap.size w ((w.alloc (.cells (rowA 64 (bF fun _ => 0)) 84)).alloc (.cells (rowA 64 (bF fun _ => 0)) 84)) := ((Below.refl _ w).alloc (Nat.le_refl _) _).alloc (by simp) _
  change Code.wp _ _ _ _ ((w.alloc (.cells (rowA 64 (bF fun _ => 0)) 84)).alloc (.cells (rowA 64 (bF fun _ => 0)) 84))
  generalize ((w.alloc (.cells (rowA 64 (bF fun _ => 0)) 84)).alloc (.cells (rowA 64 (bF fun _ => 0)) 84)) = W0 at r0 r1 hB ⊢
  have Hr0 := Lib.hid (Hr.out.keep (KeepBut.below hB))
  go_upto_region 5 with fail
  refine wp_region_seq NewT [SV.eq (.slice (some ⟨w.heap.size + 1, 0, none⟩) 64 64), svRd l] [([(3, none)], none), ([(0, none)], none)] 16 rfl rfl (by kernel_rfl) rfl NewT.trans (NewT.refl _) (Nat.le_of_ble_eq_true rfl) ⟨?_, ?_, trivial⟩ ?_
  · -- 0: Op.slice 84 t3 none none none
    intro a wx hT hF K hK
    obtain ⟨f3, _⟩ := hF
    have f3 : a.tmps.getD 3 undef = .pointer (some ⟨w.heap.size + 1, 0, none⟩) := f3
    refine rely_wp rfl ?_
    exact opr_slice_64 rfl f3 (hK _ _ (NewT.refl _) rfl)
  · -- 1: Op.move t0
    intro a wx hT hF K hK
    obtain ⟨f0, _⟩ := hF
    have f0 : a.tmps.getD 0 undef = .slice A l.length c := f0
    refine rely_wp rfl ?_
    exact opr_move (.inl rfl) (hK _ _ (NewT.refl _) (by rw [eval_tmp, f0]; exact hT.rd Hr0.out))
  · intro wx hT
    intro u h; obtain rfl := h (by simp); clear h
    intro u13 h; have g13 := h (by simp); clear h; replace g13 := show (svRd l).pred u13 wx from g13
    refine relyEnd_nil rfl ?_
    simp only [Act.put, List.setIfInBounds_toArray, List.set_cons_zero, List.set_cons_succ]
    refine opr_copy (B := w.heap.size + 1) (W := W0) rfl rfl g13 hl (hT.row r1) (hT.out.mono (Nat.le_of_lt r1.lt)) (Nat.le_refl _) ?_
    intro v w2 hB2 q1
    replace q1 := q1.congr (g := bF (bAt l)) (fun i _ => by simp only [bF]; by_cases h : i < l.length <;> simp [h, bAt])
    have q0 := rowIs_below r0 hB2 (Nat.lt_succ_self _)
    have hB3 := hB.trans (hB2.mono (Nat.le_succ _))
    clear r0 r1 hB hB2 hT
    go_simp
    go_upto_region 6 with fail
    refine wp_region_seq NewT [SV.eq (.agg (rowA 64 (bF (bAt l))))] [([(3, none)], none)] 16 rfl rfl (by kernel_rfl) rfl NewT.trans (NewT.refl _) (Nat.le_of_ble_eq_true rfl) ⟨?_, trivial⟩ ?_
    · intro a wx hT hF K hK
      obtain ⟨f3, _⟩ := hF
      have f3 : a.tmps.getD 3 undef = .pointer (some ⟨w.heap.size + 1, 0, none⟩) := f3
      refine rely_wp rfl ?_
      exact opr_load_64 rfl f3 (hT.row q1) (hK _ _ (NewT.refl _) rfl)
    · intro wx hT
      intro u h; obtain rfl := h (by simp); clear h
      refine relyEnd_nil rfl ?_
      simp only [Act.put, List.setIfInBounds_toArray, List.set_cons_zero, List.set_cons_succ]
      refine opr_store_new (B := w.heap.size) (W := w) info64 rfl rfl rfl (hT.row q0) (hB3.trans (hT.out.mono hB3.size)) (Nat.le_refl _) ?_
      intro wy hB4 r4
      go_simp
      go_wp2
      exact bodyPost_ret (results_row rfl _ rfl r4 Tryd.underlying84 info64) rfl ⟨_, rfl, hB4, rfl⟩
set_option maxHeartbeats 1000000 in
theorem keyBlock_long (A : Option Addr) (n c : Nat) (l : List UInt8) (w : World) (hT : Tables w) (hr : RdV w [] (.slice A n c) l) (hl : 64 < l.length) (hl2 : l.length ≤ 4611686018427387904) :
    Cv 54 #[.slice A n c] w (.eq (.agg (rowA 64 (bF (keyB l))))) := by
  have hk : keyB l = bAt (digL (shaL Kc Fc l)) := by unfold keyB keyOf; rw [if_pos hl]
  rw [hk]
  obtain ⟨D, HD⟩ := hid_ex (shaL Kc Fc l)
  rw [HD.out]
  have HT := Lib.hid hT
  clear hT
  unfold Cv
  have hn : l.length = n := by obtain ⟨_, _, hv, _⟩ := hr; cases hv; rfl
  subst hn
  have Hr := Lib.hid hr
  clear hr hk
  have hd : decide ((64 : Int) < (l.length : Int)) = true := by simp; omega
  go_enter Tryd.func54, Tryd.ntmps54
  go_upto_region 2 with fail
  have r0 := (rowIs_box w 84 64 (bF fun _ => 0)).alloc (.cells (rowA 64 (bF fun _ => 0)) 84)
  have r1 := rowIs_box (w.alloc (.cells (rowA 64 (bF fun _ => 0)) 84)) 84 64 (bF fun _ => 0)
  rw [World.size_alloc] at r1
  have hB : Below w.heap.size w ((w.alloc (.cells (rowA 64 (bF fun _ => 0)) 84)).alloc (.cells (rowA 64 (bF fun _ => 0)) 84)) := ((Below.refl _ w).alloc (Nat.le_refl _) _).alloc (by simp) _
  change Code.wp _ _ _ _ ((w.alloc (.cells (rowA 64 (bF fun _ => 0)) 84)).alloc (.cells (rowA 64 (bF fun _ => 0)) 84))
  generalize ((w.alloc (.cells (rowA 64 (bF fun _ => 0)) 84)).alloc (.cells (rowA 64 (bF fun _ => 0)) 84)) = W0 at r0 r1 hB ⊢
  have Hr0 := Lib.hid (Hr.out.keep (KeepBut.below hB))
  have HT0 := Lib.hid (HT.out.below hB)
  go_upto_region 3 with fail
  refine wp_region_seq NewT [svRd l, svParts [l], SV.eq (.agg (rowA 32 (bF D))), svNew W0 26 32] [([(0, none)], none), ([(8, some 0)], none), ([(9, some 1)], none), ([], none)] 16 rfl rfl (by kernel_rfl) rfl NewT.trans (NewT.refl _) (Nat.le_of_ble_eq_true rfl) ⟨?_, ?_, ?_, ?_, trivial⟩ ?_
  · -- 0: Op.move t0
    intro a wx hT hF K hK
    obtain ⟨f0, _⟩ := hF
    have f0 : a.tmps.getD 0 undef = .slice A l.length c := f0
    refine rely_wp rfl ?_
    exact opr_move (.inl rfl) (hK _ _ (NewT.refl _) (by rw [eval_tmp, f0]; exact hT.rd Hr0.out))
  · -- 1: Op.buildSlice 68 1 #[(0, t8)]
    intro a wx hT hF K hK
    obtain ⟨f8, _⟩ := hF
    replace f8 := show (svRd l).pred (a.tmps.getD 8 undef) wx from f8
    refine rely_wp rfl ?_
    exact opr_bs1 rfl f8 hK
  · -- 2: Op.call ( value (Operand.func 51), args := #[t9], argTypes :
    intro a wx hT hF K hK
    obtain ⟨f9, _⟩ := hF
    replace f9 := show (svParts [l]).pred (a.tmps.getD 9 undef) wx from f9
    refine rely_wp rfl ?_
    exact opr_cv (Sum_cv _ [l] D wx (hT.tables HT0.out) f9 (by simpa using hl2) (by simp; exact HD.out)) rfl Tryd.func51 (by kernel_rfl) (by kernel_rfl) (by simp only [List.map_toArray, List.map_cons, List.map_nil, eval_tmp]) hK
  · -- 3: Op.alloc 26
    intro a wx hT hF K hK
    refine rely_wp rfl ?_
    exact opr_alloc_hash rfl hT hK
  · intro wx hT
    intro u8 h; have g8 := h (by simp); clear h; replace g8 := show (svRd l).pred u8 wx from g8
    intro u9 h; have g9 := h (by simp); clear h; replace g9 := show (svParts [l]).pred u9 wx from g9
    intro u h; obtain rfl := h (by simp); clear h
    intro u4 h; obtain ⟨p4, hv, hp4, rr4⟩ := svNew_out (h (by simp)); clear h; subst hv
    refine relyEnd_nil rfl ?_
    simp only [Act.put, List.setIfInBounds_toArray, List.set_cons_zero, List.set_cons_succ]
    refine opr_store_new info31 rfl rfl rfl rr4 hT.out hp4 ?_
    clear hT rr4
    intro wy hT rr4
    replace hT := NewT.of hT
    go_simp
    replace r0 := hT.row r0
    replace r1 := hT.row r1
    replace hB := hB.trans (hT.out.mono hB.size)
    have rdD := rd_row (L := []) rr4 (by simp) (by omega)
    change RdV wy [] (.slice (some ⟨p4, 0, none⟩) 32 32) (digL D) at rdD
    have RdD := Lib.hid rdD
    clear rdD rr4 Hr0 HT0 hT g8 g9 hp4
    have rdD := RdD.out
    go_upto_region 5 with fail
    refine wp_region_seq NewT [SV.eq (.slice (some ⟨w.heap.size + 1, 0, none⟩) 64 64), svRd (digL D)] [([(3, none)], none), ([(0, none)], none)] 16 rfl rfl (by kernel_rfl) rfl NewT.trans (NewT.refl _) (Nat.le_of_ble_eq_true rfl) ⟨?_, ?_, trivial⟩ ?_
    · -- 0: Op.slice 84 t3 none none none
      intro a wx hT hF K hK
      obtain ⟨f3, _⟩ := hF
      have f3 : a.tmps.getD 3 undef = .pointer (some ⟨w.heap.size + 1, 0, none⟩) := f3
      refine rely_wp rfl ?_
      exact opr_slice_64 rfl f3 (hK _ _ (NewT.refl _) rfl)
    · -- 1: Op.move t0
      intro a wx hT hF K hK
      obtain ⟨f0, _⟩ := hF
      have f0 : a.tmps.getD 0 undef = .slice (some ⟨p4, 0, none⟩) 32 32 := f0
      refine rely_wp rfl ?_
      exact opr_move (.inl rfl) (hK _ _ (NewT.refl _) (by rw [eval_tmp, f0]; exact hT.rd rdD))
    · intro wx hT
      intro u h; obtain rfl := h (by simp); clear h
      intro u13 h; have g13 := h (by simp); clear h; replace g13 := show (svRd (digL D)).pred u13 wx from g13
      refine relyEnd_nil rfl ?_
      simp only [Act.put, List.setIfInBounds_toArray, List.set_cons_zero, List.set_cons_succ]
      refine opr_copy (B := w.heap.size + 1) (W := wy) rfl rfl g13 (by rw [digL_length]; omega) (hT.row r1) (hT.out.mono (Nat.le_of_lt r1.lt)) (Nat.le_refl _) ?_
      intro v w2 hB2 q1
      replace q1 := q1.congr (g := bF (bAt (digL D))) (fun i _ => by simp only [bF]; by_cases h : i < (digL D).length <;> simp [h, bAt])
      have q0 := rowIs_below r0 hB2 (Nat.lt_succ_self _)
      have hB3 := hB.trans (hB2.mono (Nat.le_succ _))
      clear r0 r1 hB hB2 hT
      go_simp
      go_upto_region 6 with fail
      refine wp_region_seq NewT [SV.eq (.agg (rowA 64 (bF (bAt (digL D)))))] [([(3, none)], none)] 16 rfl rfl (by kernel_rfl) rfl NewT.trans (NewT.refl _) (Nat.le_of_ble_eq_true rfl) ⟨?_, trivial⟩ ?_
      · intro a wx hT hF K hK
        obtain ⟨f3, _⟩ := hF
        have f3 : a.tmps.getD 3 undef = .pointer (some ⟨w.heap.size + 1, 0, none⟩) := f3
        refine rely_wp rfl ?_
        exact opr_load_64 rfl f3 (hT.row q1) (hK _ _ (NewT.refl _) rfl)
      · intro wx hT
        intro u h; obtain rfl := h (by simp); clear h
        refine relyEnd_nil rfl ?_
        simp only [Act.put, List.setIfInBounds_toArray, List.set_cons_zero, List.set_cons_succ]
        refine opr_store_new (B := w.heap.size) (W := w) info64 rfl rfl rfl (hT.row q0) (hB3.trans (hT.out.mono hB3.size)) (Nat.le_refl _) ?_
        intro wy hB4 r4
        go_simp
        go_wp2
        exact bodyPost_ret (results_row rfl _ rfl r4 Tryd.underlying84 info64) rfl ⟨_, rfl, hB4, rfl⟩
theorem keyBlock_cv (v : Value) (l : List UInt8) (w : World) (hT : Tables w) (hr : RdV w [] v l) (hl2 : l.length ≤ 4611686018427387904) : Cv 54 #[v] w (.eq (.agg (rowA 64 (bF (keyB l))))) := by
  have hr0 := hr
  obtain ⟨A, c, rfl, _⟩ := hr0
  by_cases h : l.length ≤ 64
  · exact keyBlock_short A _ c l w hr h
  · exact keyBlock_long A _ c l w hT hr (by omega) hl2
end Go.Proofs.YtcfogkimjbgjgaaDoor
/- Package mac: slices of slices that are put together piece by piece: each piece reads as bytes that no append turns. -/
namespace Go.Proofs.YtcfogkimjbgjgaaDoor
open Go Go.RowKit
set_option maxRecDepth 8000
set_option linter.all false

/-- Pieces: a row of slices of the call's own (from base on), each of which reads as its bytes outside that row. -/
def Pcs (W : World) (base : Nat) (v : Value) (ls : List (List UInt8)) : Prop :=
  ∃ ps : List (Value × List UInt8), ps.map (·.2) = ls ∧ W.ownsRow base 28 1 v ps.length (ps.map (·.1)) ∧ ∀ x ∈ ps, RdV W v.ownBlock.toList x.1 x.2
theorem Pcs.own_lt {W : World} {base : Nat} {v : Value} {ls : List (List UInt8)} (h : Pcs W base v ls) (k : Nat) (hk : v.ownBlock = some k) : k < W.heap.size ∧ base ≤ k := by
  obtain ⟨ps, _, ho, _⟩ := h
  exact ⟨(ho.lt k hk).2, (ho.lt k hk).1⟩
theorem Pcs.new {W W' : World} {base : Nat} {v : Value} {ls : List (List UInt8)} (h : Pcs W base v ls) (hN : NewT W W') : Pcs W' base v ls := by
  have hlt := h.own_lt
  obtain ⟨ps, h1, h2, h3⟩ := h
  refine ⟨ps, h1, ?_, fun x hx => hN.rd (h3 x hx)⟩
  obtain ⟨a, b⟩ := h2
  refine ⟨a, ?_⟩
  rcases b with b | ⟨g, cap, cur, rfl, hb, hg, r⟩
  · exact .inl b
  · exact .inr ⟨g, cap, cur, rfl, hb, (hN.out.block g (hlt g rfl).1).trans hg, r⟩
theorem Pcs.parts {W : World} {base : Nat} {v : Value} {ls : List (List UInt8)} (h : Pcs W base v ls) : Parts W v ls := by
  obtain ⟨ps, h1, h2, h3⟩ := h
  refine ⟨ps, ?_, h1⟩
  rcases h2.2 with ⟨rfl, h0⟩ | ⟨g, cap, cur, rfl, _, _, hnc, hcm, _, _⟩
  · have : ps = [] := List.eq_nil_of_length_eq_zero h0
    subst this
    exact ⟨none, 0, rfl, Nat.le_refl _, by unfold maxLen; omega, fun h => absurd h (by simp), fun x hx => by simp at hx⟩
  · refine ⟨some ⟨g, 0, none⟩, cap, rfl, hnc, hcm, fun _ => ⟨g, 0, rfl, by simp, fun i x hx => ?_⟩, fun x hx => (h3 x hx).less (by simp)⟩
    have hc := h2.cells (g := g) rfl i x.1 (by rw [List.getElem?_map, hx]; rfl)
    rwa [Addr.add_mid] at hc
theorem info24 : (Tryd.prog.info? 28).map (fun i => (i.zero, i.size, i.bytes)) = some (some (.slice none 0 0), 1, 24) := by kernel_rfl
/-- New pieces are put behind. -/
theorem run_append_pcs {W : World} {base : Nat} {v : Value} {ls : List (List UInt8)} (hp : Pcs W base v ls) (hbase : base ≤ W.heap.size) (us : List (Value × List UInt8)) (hu : ∀ x ∈ us, RdV W v.ownBlock.toList x.1 x.2)
    (s c : Nat) (hs : ∀ j x, us[j]? = some x → W.cell? ⟨s, j, none⟩ = some x.1) (hlen : ls.length + us.length ≤ 1000000) (ty : TypeId) :
    ∃ v' w', (Builtin.append_ #[68, 68] ty #[v, .slice (some ⟨s, 0, none⟩) us.length c]).run Tryd.prog W = .ok v' w' ∧ Pcs w' base v' (ls ++ us.map (·.2)) ∧ W.grownBy w' v.ownBlock := by
  obtain ⟨ps, h1, h2, h3⟩ := hp
  have hpl : ps.length = ls.length := by rw [← h1]; simp
  obtain ⟨i0, hi, hz0, hz1, hz2⟩ := info_parts info24
  obtain ⟨v', w', hrun, hown, hgr, _, hat⟩ := run_append_own_at (P := Tryd.prog) (w := W) base 68 ty 28 i0 _ 1 24 Tryd.underlying68 hi hz0 hz1 hz2 rfl (by omega) v ps.length (ps.map (·.1)) h2
    ⟨s, 0, none⟩ us.length c (us.map (·.1)) (by simp) (fun j u hj => by
      rw [Addr.add_mid, Nat.zero_add]
      rw [List.getElem?_map] at hj
      cases hx : us[j]? with
      | none => rw [hx] at hj; simp at hj
      | some x => rw [hx] at hj; simp at hj; subst hj; exact hs j x hx)
    (fun u hm => by
      obtain ⟨x, hx, rfl⟩ := List.mem_map.1 hm
      obtain ⟨A, cap, hv, _⟩ := hu x hx
      rw [hv]; rfl) (by unfold maxLen; omega) (by omega) hbase
  refine ⟨v', w', hrun, ⟨ps ++ us, by rw [List.map_append, h1], by rw [List.length_append, List.map_append]; exact hown, fun x hx => ?_⟩, hgr⟩
  have hx0 : RdV W v.ownBlock.toList x.1 x.2 := by
    rcases List.mem_append.1 hx with h | h
    · exact h3 x h
    · exact hu x h
  rcases hat with e | e
  · rw [e]; exact hx0.keep (keepBut_grown hgr fun k hk => by simp [hk])
  · rw [e]
    have hx1 : RdV W (W.heap.size :: v.ownBlock.toList) x.1 x.2 := hx0.more fun k hk hn hm => by
      rcases List.mem_cons.1 hm with rfl | h
      · omega
      · exact hn h
    exact (hx1.keep (keepBut_grown hgr fun k hk => by simp [hk])).less (by simp)
theorem Pcs.below {W w' : World} {base : Nat} {v : Value} {ls : List (List UInt8)} (h : Pcs W base v ls) (hg : W.grownBy w' v.ownBlock) (hb : base ≤ W.heap.size) : Below base W w' :=
  (Below.refl base W).grown hg hb (fun k hk => (h.own_lt k hk).2)
end Go.Proofs.YtcfogkimjbgjgaaDoor
/- Package mac: parts behind their lengths, words as bytes, and the texts that are put together of them. -/
namespace Go.Proofs.YtcfogkimjbgjgaaDoor
open Go Go.RowKit
set_option maxRecDepth 8000
set_option linter.all false

/-- A number of 64 bits, as it lies in memory (two's complement). -/
def wN (n : Int) : Nat := (n % 18446744073709551616).toNat
theorem wN_eq (n : Int) : IntKind.u64.wrap n = (wN n : Int) := by rw [wrap_u64, wN]; omega
theorem wN_nat (n : Nat) (h : n < 18446744073709551616) : wN (n : Int) = n := by unfold wN; omega
set_option maxHeartbeats 1000000 in
theorem countedPart_any (v u : Value) (base : Nat) (ls : List (List UInt8)) (l : List UInt8) (w : World) (hp : Pcs w base v ls) (hb : base ≤ w.heap.size) (hu : RdV w v.ownBlock.toList u l) (hlen : ls.length ≤ 900000) :
    Calls Tryd.prog 53 #[v, u] w fun e w' => ∃ v', e = .returned v' ∧ Pcs w' base v' (ls ++ [hiL l.length 4, l]) ∧ Below base w w' := by
  obtain ⟨A, c, rfl, hlc, hcm, h0⟩ := hu
  have hu : RdV w v.ownBlock.toList (.slice A l.length c) l := ⟨A, c, rfl, hlc, hcm, h0⟩
  have hcm' := hcm
  unfold maxLen at hcm'
  have hw : IntKind.u64.wrap (l.length : Int) = (l.length : Int) := by rw [wN_eq, wN_nat _ (by omega)]
  have Hp := Lib.hid hp
  have Hu := Lib.hid hu
  clear h0 hlc hcm hcm' hp hu
  go_enter Tryd.func53, Tryd.ntmps53
  go_upto_region 1 with fail
  refine wp_region_lit ?_
  iterate 4 (refine wpList_plain rfl (fun K hK => ?_); go_simp; refine hK _ _ ?_; clear hK K)
  refine wpList_plain rfl (fun K hK => ?_)
  refine opr_cv (hiF_4 l.length w) rfl Tryd.func60 (by kernel_rfl) (by kernel_rfl) (by simp only [List.map_toArray, List.map_cons, List.map_nil]; rfl) ?_
  intro hv w1 hN1 hnew
  refine hK _ _ ?_
  clear hK K hw
  have hr9 := hnew v.ownBlock.toList (fun k hk => (Hp.out.own_lt k (by simpa using hk)).1)
  replace Hp := Lib.hid (Hp.out.new hN1)
  replace Hu := Lib.hid (hN1.rd Hu.out)
  obtain ⟨A9, c9, rfl, h9⟩ := hr9
  have hr9 : RdV w1 v.ownBlock.toList (.slice A9 (hiL l.length 4).length c9) (hiL l.length 4) := ⟨A9, c9, rfl, h9⟩
  have Hr9 := Lib.hid hr9
  clear hr9 h9 hnew
  have hb1 : base ≤ w1.heap.size := Nat.le_trans hb hN1.out.size
  have hN := NewT.alloc w1 (.cells #[.slice A9 (hiL l.length 4).length c9, .slice A l.length c] 28)
  have hrun := run_append_pcs (Hp.out.new hN) (Nat.le_trans hb1 hN.out.size) [(.slice A9 (hiL l.length 4).length c9, hiL l.length 4), (.slice A l.length c, l)] (by simp only [List.mem_cons, List.not_mem_nil, or_false]; intro x hx; rcases hx with rfl | rfl; (exact hN.rd Hr9.out); (exact hN.rd Hu.out)) w1.heap.size 2 (fun j x hx => by
    match j, hx with
    | 0, hx => simp at hx; subst hx; rw [cell_new_fr _ _ _ _ _ _ rfl]; rfl
    | 1, hx => simp at hx; subst hx; rw [cell_new_fr _ _ _ _ _ _ rfl]; rfl) (by simp; omega) 68
  obtain ⟨v', w', hr, hp', hgr⟩ := hrun
  have hB : Below base w w' := (hN1.out.mono hb).trans (((Below.refl base w1).alloc hb1 _).trans ((Hp.out.new hN).below hgr (Nat.le_trans hb1 hN.out.size)))
  have Hp' := Lib.hid hp'
  have HB := Lib.hid hB
  clear hp' hB hgr hN Hp Hu Hr9
  simp only [List.length_cons, List.length_nil, Nat.zero_add, Nat.reduceAdd] at hr
  iterate 2 (refine wpList_plain rfl (fun K hK => ?_); go_simp; refine hK _ _ ?_; clear hK K)
  refine wpList_plain rfl (fun K hK => ?_)
  refine opr_append rfl rfl rfl hr (hK _ _ ?_)
  clear hr hK K
  refine wpList_plain rfl (fun K hK => ?_)
  refine opr_move (.inr rfl) (hK _ _ ?_)
  clear hK K
  refine wpList_nil ?_
  go_simp
  go_wp2
  go_ret
  exact ⟨v', rfl, Hp'.out, HB.out⟩
end Go.Proofs.YtcfogkimjbgjgaaDoor
/- Package mac: texts put together of counted pieces. -/
namespace Go.Proofs.YtcfogkimjbgjgaaDoor
open Go Go.RowKit
set_option maxRecDepth 8000
set_option linter.all false
/-- A part behind its length. -/
def cntP (l : List UInt8) : List (List UInt8) := [hiL l.length 4, l]
theorem cnt_length (ls : List (List UInt8)) : (ls.flatMap cntP).length = 2 * ls.length := by
  induction ls with
  | nil => rfl
  | cons x ls ih => simp [cntP] at ih ⊢; omega
theorem pcs_one {w : World} {A : Option Addr} {n c : Nat} {l : List UInt8} (h : RdV w [] (.slice A n c) l) : Pcs (w.alloc (.cells #[.slice A n c] 28)) w.heap.size (.slice (some ⟨w.heap.size, 0, none⟩) 1 1) [l] := by
  refine ⟨[(.slice A n c, l)], rfl, ⟨rfl, .inr ⟨w.heap.size, 1, #[.slice A n c], rfl, Nat.le_refl _, World.alloc_heap_new _ _, Nat.le_refl _, by unfold maxLen; omega, rfl, rfl⟩⟩, fun x hx => ?_⟩
  simp at hx
  subst hx
  refine (NewT.alloc w _).rd (h.more fun k hk _ hm => ?_)
  simp [Value.ownBlock] at hm
  omega
/-- What lay there reads on beside the call's own row. -/
theorem rd_beside {w wr : World} {v u : Value} {ls : List (List UInt8)} {l : List UInt8} (h : RdV w [] u l) (hp : Pcs wr w.heap.size v ls) (hB : Below w.heap.size w wr) : RdV wr v.ownBlock.toList u l :=
  (h.more fun k hk _ hm => by have := (hp.own_lt k (by simpa using hm)).2; omega).keep (KeepBut.below hB)
set_option maxHeartbeats 1000000 in
theorem text_counted (v0 pv : Value) (l0 : List UInt8) (ls : List (List UInt8)) (w : World) (h0 : RdV w [] v0 l0) (hp : Parts w pv ls) (hlen : ls.length ≤ 100000) :
    Cv 52 #[v0, .func (.func 53) #[] #[], pv] w (svParts (l0 :: (ls).flatMap cntP)) := by
  unfold Cv
  obtain ⟨A0, c0, rfl, h00⟩ := h0
  have H0 : Hid (RdV w [] (.slice A0 l0.length c0) l0) := Lib.hid ⟨A0, c0, rfl, h00⟩
  clear h00
  obtain ⟨ps, hps, rfl⟩ := hp
  obtain ⟨A, cap, rfl, hpc, hpm, hA, hR⟩ := hps
  unfold maxLen at hpm
  obtain ⟨n, hn⟩ : ∃ n, n = ps.length := ⟨_, rfl⟩
  rw [← hn] at hpc
  have Hn : Hid (n = (ps.map (·.2)).length) := Lib.hid (by simpa using hn)
  have hlen' : n ≤ 100000 := by rw [Hn.out]; exact hlen
  have HA := Lib.hid (show 0 < n → ∃ b o, A = some ⟨b, o, none⟩ ∧ ∀ i x, ps[i]? = some x → w.cell? ⟨b, o + i, none⟩ = some x.1 from fun h => by
    obtain ⟨b, o, h1, _, h2⟩ := hA (by omega)
    exact ⟨b, o, h1, h2⟩)
  have HR := Lib.hid hR
  rw [← hn]
  have Hps := Lib.hid hn
  clear hA hR hn hlen
  go_enter Tryd.func52, Tryd.ntmps52
  go_wp2
  have p0 := pcs_one H0.out
  have hB : Below w.heap.size w (w.alloc (.cells #[.slice A0 l0.length c0] 28)) := (Below.refl _ w).alloc (Nat.le_refl _) _
  generalize w.alloc (.cells #[.slice A0 l0.length c0] 28) = W0 at p0 hB ⊢
  go_loopw [7, 14] (fun v i wr => ∃ k : Nat, k ≤ n ∧ i = .int .i64 k ∧ Pcs wr w.heap.size v (l0 :: ((ps.map (·.2)).take k).flatMap cntP) ∧ Below w.heap.size w wr) (fun _ i _ => n - (intOf i).toNat)
  case atStart => exact ⟨0, by omega, rfl, by simpa using p0, hB⟩
  case round =>
    obtain ⟨k, hk, rfl, hp, qB⟩ := hrel
    clear p0 hB
    by_cases hlt : k < n
    · obtain ⟨b, o, rfl, hcells⟩ := HA.out (by omega)
      have hx : ps[k]? = some ps[k] := List.getElem?_eq_getElem (by rw [← Hps.out]; exact hlt)
      generalize hxx : ps[k] = x at hx
      have hcell := (qB.cell (p := ⟨b, o + k, none⟩) (World.block_lt_of_cell? _ _ (hcells k x hx))).trans (hcells k x hx)
      have hrd := rd_beside (HR.out x (List.mem_of_getElem? hx)) hp qB
      have hll : (l0 :: ((ps.map (·.2)).take k).flatMap cntP).length ≤ 900000 := by
        rw [List.length_cons, cnt_length, List.length_take]; omega
      have Hext : Hid (((ps.map (·.2)).take (k + 1)).flatMap cntP = ((ps.map (·.2)).take k).flatMap cntP ++ [hiL x.2.length 4, x.2]) := Lib.hid (by
        rw [List.take_add_one, List.getElem?_map, hx]; simp [cntP])
      obtain ⟨A', c', hv', hr0⟩ := hrd
      have Hrd : Hid (RdV wr (Value.ownBlock u7).toList (.slice A' x.2.length c') x.2) := Lib.hid ⟨A', c', rfl, hr0⟩
      rw [hv'] at hcell
      have Hp := Lib.hid hp
      clear hr0 hv' hx hxx hcells hp
      go_wp2_with (go_at_call 53; refine (countedPart_any _ _ _ _ x.2 _ Hp.out qB.size Hrd.out hll).mono ?_; rintro e w2 ⟨v', rfl, hp2, hB2⟩)
      go_roundw
      case rel =>
        refine ⟨k + 1, by omega, by go_num, ?_, qB.trans hB2⟩
        have e := Hext.out
        rw [e]
        simpa using hp2
      case measure => simp [intOf]; omega
    · obtain rfl : k = n := by omega
      go_wp2
      go_ret
      refine ⟨_, rfl, qB, ?_⟩
      have := hp.parts
      rw [Hn.out, List.take_length] at this
      exact this
end Go.Proofs.YtcfogkimjbgjgaaDoor
/- Package mac: a part as it is. -/
namespace Go.Proofs.YtcfogkimjbgjgaaDoor
open Go Go.RowKit
set_option maxRecDepth 8000
set_option linter.all false
set_option maxHeartbeats 1000000 in
theorem plainPart_any (v u : Value) (base : Nat) (ls : List (List UInt8)) (l : List UInt8) (w : World) (hp : Pcs w base v ls) (hb : base ≤ w.heap.size) (hu : RdV w v.ownBlock.toList u l) (hlen : ls.length ≤ 900000) :
    Calls Tryd.prog 56 #[v, u] w fun e w' => ∃ v', e = .returned v' ∧ Pcs w' base v' (ls ++ [l]) ∧ Below base w w' := by
  obtain ⟨A, c, rfl, h0⟩ := hu
  have hu : RdV w v.ownBlock.toList (.slice A l.length c) l := ⟨A, c, rfl, h0⟩
  clear h0
  have hN := NewT.alloc w (.cells #[.slice A l.length c] 28)
  have hrun := run_append_pcs (hp.new hN) (Nat.le_trans hb hN.out.size) [(.slice A l.length c, l)] (by simpa using hN.rd hu) w.heap.size 1 (fun j x hx => by
    match j, hx with
    | 0, hx => simp at hx; subst hx; rw [cell_new_fr _ _ _ _ _ _ rfl]; rfl) (by simp; omega) 68
  obtain ⟨v', w', hr, hp', hgr⟩ := hrun
  have hB : Below base w w' := ((Below.refl base w).alloc hb _).trans ((hp.new hN).below hgr (Nat.le_trans hb hN.out.size))
  have Hp := Lib.hid hp'
  have HB := Lib.hid hB
  clear hp' hB hgr hN hp hu
  simp only [List.length_cons, List.length_nil, Nat.zero_add] at hr
  go_enter Tryd.func56, Tryd.ntmps56
  go_upto_region 1 with fail
  refine wp_region_lit ?_
  iterate 3 (refine wpList_plain rfl (fun K hK => ?_); go_simp; refine hK _ _ ?_; clear hK K)
  refine wpList_plain rfl (fun K hK => ?_)
  refine opr_append rfl rfl rfl hr (hK _ _ ?_)
  clear hr hK K
  refine wpList_plain rfl (fun K hK => ?_)
  refine opr_move (.inr rfl) (hK _ _ ?_)
  clear hK K
  refine wpList_nil ?_
  go_simp
  go_wp2
  go_ret
  exact ⟨v', rfl, Hp.out, HB.out⟩
end Go.Proofs.YtcfogkimjbgjgaaDoor
/- Package mac: words as bytes. -/
namespace Go.Proofs.YtcfogkimjbgjgaaDoor
open Go Go.RowKit
set_option maxRecDepth 8000
set_option linter.all false
set_option maxHeartbeats 1000000 in
theorem wordPart_any (v : Value) (n : Int) (base : Nat) (ls : List (List UInt8)) (w : World) (hp : Pcs w base v ls) (hb : base ≤ w.heap.size) (hlen : ls.length ≤ 900000) :
    Calls Tryd.prog 45 #[v, .int .i64 n] w fun e w' => ∃ v', e = .returned v' ∧ Pcs w' base v' (ls ++ [hiL (wN n) 8]) ∧ Below base w w' := by
  have hw : IntKind.u64.wrap n = (wN n : Int) := wN_eq n
  have Hp := Lib.hid hp
  clear hp
  go_enter Tryd.func45, Tryd.ntmps45
  go_upto_region 1 with fail
  refine wp_region_lit ?_
  iterate 3 (refine wpList_plain rfl (fun K hK => ?_); go_simp; refine hK _ _ ?_; clear hK K)
  refine wpList_plain rfl (fun K hK => ?_)
  refine opr_cv (hiF_8 (wN n) w) rfl Tryd.func60 (by kernel_rfl) (by kernel_rfl) (by simp only [List.map_toArray, List.map_cons, List.map_nil]; rfl) ?_
  intro hv w1 hN1 hnew
  refine hK _ _ ?_
  clear hK K hw
  have hr9 := hnew v.ownBlock.toList (fun k hk => (Hp.out.own_lt k (by simpa using hk)).1)
  replace Hp := Lib.hid (Hp.out.new hN1)
  obtain ⟨A9, c9, rfl, h9⟩ := hr9
  have hr9 : RdV w1 v.ownBlock.toList (.slice A9 (hiL (wN n) 8).length c9) (hiL (wN n) 8) := ⟨A9, c9, rfl, h9⟩
  have Hr9 := Lib.hid hr9
  clear hr9 h9 hnew
  have hb1 : base ≤ w1.heap.size := Nat.le_trans hb hN1.out.size
  have hN := NewT.alloc w1 (.cells #[.slice A9 (hiL (wN n) 8).length c9] 28)
  have hrun := run_append_pcs (Hp.out.new hN) (Nat.le_trans hb1 hN.out.size) [(.slice A9 (hiL (wN n) 8).length c9, hiL (wN n) 8)] (by simpa using hN.rd Hr9.out) w1.heap.size 1 (fun j x hx => by
    match j, hx with
    | 0, hx => simp at hx; subst hx; rw [cell_new_fr _ _ _ _ _ _ rfl]; rfl) (by simp; omega) 68
  obtain ⟨v', w', hr, hp', hgr⟩ := hrun
  have hB : Below base w w' := (hN1.out.mono hb).trans (((Below.refl base w1).alloc hb1 _).trans ((Hp.out.new hN).below hgr (Nat.le_trans hb1 hN.out.size)))
  have Hp' := Lib.hid hp'
  have HB := Lib.hid hB
  clear hp' hB hgr hN Hp Hr9
  simp only [List.length_cons, List.length_nil, Nat.zero_add] at hr
  iterate 1 (refine wpList_plain rfl (fun K hK => ?_); go_simp; refine hK _ _ ?_; clear hK K)
  refine wpList_plain rfl (fun K hK => ?_)
  refine opr_append rfl rfl rfl hr (hK _ _ ?_)
  clear hr hK K
  refine wpList_plain rfl (fun K hK => ?_)
  refine opr_move (.inr rfl) (hK _ _ ?_)
  clear hK K
  refine wpList_nil ?_
  go_simp
  go_wp2
  go_ret
  exact ⟨v', rfl, Hp'.out, HB.out⟩
end Go.Proofs.YtcfogkimjbgjgaaDoor
/- Slices of numbers that read as lists. -/
namespace Go.Proofs.YtcfogkimjbgjgaaDoor
open Go Go.RowKit
set_option maxRecDepth 8000
set_option linter.all false
/-- A slice of numbers reads as is. -/
def RdI (W : World) (v : Value) (is : List Int) : Prop :=
  ∃ A cap, v = .slice A is.length cap ∧ is.length ≤ cap ∧ cap ≤ maxLen ∧ (0 < is.length → ∃ b o, A = some ⟨b, o, none⟩ ∧ ∀ i, i < is.length → W.cell? ⟨b, o + i, none⟩ = some (.int .i64 (is.getD i 0)))
theorem NewT.ints {w w' : World} (h : NewT w w') {v : Value} {is : List Int} (hr : RdI w v is) : RdI w' v is := by
  obtain ⟨A, cap, hv, h1, h2, h3⟩ := hr
  refine ⟨A, cap, hv, h1, h2, fun h0 => ?_⟩
  obtain ⟨b, o, hA, hc⟩ := h3 h0
  refine ⟨b, o, hA, fun i hi => (h.out.cell (p := ⟨b, o + i, none⟩) (World.block_lt_of_cell? _ _ (hc i hi))).trans (hc i hi)⟩
def svInts (is : List Int) : SV NewT := ⟨fun v w => RdI w v is, fun _ _ _ h hT => hT.ints h⟩
end Go.Proofs.YtcfogkimjbgjgaaDoor
/- Package mac: texts put together of pieces, one behind the other: what each call returns reads as those pieces. -/
namespace Go.Proofs.YtcfogkimjbgjgaaDoor
open Go Go.RowKit
set_option maxRecDepth 8000
set_option linter.all false

set_option maxHeartbeats 1000000 in
theorem text_plain (v0 pv : Value) (l0 : List UInt8) (ls : List (List UInt8)) (w : World) (h0 : RdV w [] v0 l0) (hp : Parts w pv ls) (hlen : ls.length ≤ 100000) :
    Cv 52 #[v0, .func (.func 56) #[] #[], pv] w (svParts (l0 :: ls)) := by
  unfold Cv
  obtain ⟨A0, c0, rfl, h00⟩ := h0
  have H0 : Hid (RdV w [] (.slice A0 l0.length c0) l0) := Lib.hid ⟨A0, c0, rfl, h00⟩
  clear h00
  obtain ⟨ps, hps, rfl⟩ := hp
  obtain ⟨A, cap, rfl, hpc, hpm, hA, hR⟩ := hps
  unfold maxLen at hpm
  obtain ⟨n, hn⟩ : ∃ n, n = ps.length := ⟨_, rfl⟩
  rw [← hn] at hpc
  have Hn : Hid (n = (ps.map (·.2)).length) := Lib.hid (by simpa using hn)
  have hlen' : n ≤ 100000 := by rw [Hn.out]; exact hlen
  have HA := Lib.hid (show 0 < n → ∃ b o, A = some ⟨b, o, none⟩ ∧ ∀ i x, ps[i]? = some x → w.cell? ⟨b, o + i, none⟩ = some x.1 from fun h => by
    obtain ⟨b, o, h1, _, h2⟩ := hA (by omega)
    exact ⟨b, o, h1, h2⟩)
  have HR := Lib.hid hR
  rw [← hn]
  have Hps := Lib.hid hn
  clear hA hR hn hlen
  go_enter Tryd.func52, Tryd.ntmps52
  go_wp2
  have p0 := pcs_one H0.out
  have hB : Below w.heap.size w (w.alloc (.cells #[.slice A0 l0.length c0] 28)) := (Below.refl _ w).alloc (Nat.le_refl _) _
  generalize w.alloc (.cells #[.slice A0 l0.length c0] 28) = W0 at p0 hB ⊢
  go_loopw [7, 14] (fun v i wr => ∃ k : Nat, k ≤ n ∧ i = .int .i64 k ∧ Pcs wr w.heap.size v (l0 :: (ps.map (·.2)).take k) ∧ Below w.heap.size w wr) (fun _ i _ => n - (intOf i).toNat)
  case atStart => exact ⟨0, by omega, rfl, by simpa using p0, hB⟩
  case round =>
    obtain ⟨k, hk, rfl, hp, qB⟩ := hrel
    clear p0 hB
    by_cases hlt : k < n
    · obtain ⟨b, o, rfl, hcells⟩ := HA.out (by omega)
      have hx : ps[k]? = some ps[k] := List.getElem?_eq_getElem (by rw [← Hps.out]; exact hlt)
      generalize hxx : ps[k] = x at hx
      have hcell := (qB.cell (p := ⟨b, o + k, none⟩) (World.block_lt_of_cell? _ _ (hcells k x hx))).trans (hcells k x hx)
      have hrd := rd_beside (HR.out x (List.mem_of_getElem? hx)) hp qB
      have hll : (l0 :: (ps.map (·.2)).take k).length ≤ 900000 := by
        simp; omega
      have Hext : Hid ((ps.map (·.2)).take (k + 1) = (ps.map (·.2)).take k ++ [x.2]) := Lib.hid (by
        rw [List.take_add_one, List.getElem?_map, hx]; simp)
      obtain ⟨A', c', hv', hr0⟩ := hrd
      have Hrd : Hid (RdV wr (Value.ownBlock u7).toList (.slice A' x.2.length c') x.2) := Lib.hid ⟨A', c', rfl, hr0⟩
      rw [hv'] at hcell
      have Hp := Lib.hid hp
      clear hr0 hv' hx hxx hcells hp
      go_wp2_with (go_at_call 56; refine (plainPart_any _ _ _ _ x.2 _ Hp.out qB.size Hrd.out hll).mono ?_; rintro e w2 ⟨v', rfl, hp2, hB2⟩)
      go_roundw
      case rel =>
        refine ⟨k + 1, by omega, by go_num, ?_, qB.trans hB2⟩
        have e := Hext.out
        rw [e]
        simpa using hp2
      case measure => simp [intOf]; omega
    · obtain rfl : k = n := by omega
      go_wp2
      go_ret
      refine ⟨_, rfl, qB, ?_⟩
      have := hp.parts
      rw [Hn.out, List.take_length] at this
      exact this
set_option maxHeartbeats 1000000 in
theorem text_words (v0 pv : Value) (l0 : List UInt8) (is : List Int) (w : World) (h0 : RdV w [] v0 l0) (hp : RdI w pv is) (hlen : is.length ≤ 100000) :
    Cv 44 #[v0, .func (.func 45) #[] #[], pv] w (svParts (l0 :: (is).map fun n => hiL (wN n) 8)) := by
  unfold Cv
  obtain ⟨A0, c0, rfl, h00⟩ := h0
  have H0 : Hid (RdV w [] (.slice A0 l0.length c0) l0) := Lib.hid ⟨A0, c0, rfl, h00⟩
  clear h00
  obtain ⟨A, cap, rfl, hpc, hpm, hA⟩ := hp
  unfold maxLen at hpm
  obtain ⟨n, hn⟩ : ∃ n, n = is.length := ⟨_, rfl⟩
  rw [← hn] at hpc
  have Hn : Hid (n = is.length) := Lib.hid hn
  have hlen' : n ≤ 100000 := by rw [Hn.out]; exact hlen
  have HA := Lib.hid (show 0 < n → ∃ b o, A = some ⟨b, o, none⟩ ∧ ∀ i, i < n → w.cell? ⟨b, o + i, none⟩ = some (.int .i64 (is.getD i 0)) from fun h => by
    obtain ⟨b, o, h1, h2⟩ := hA (by omega)
    exact ⟨b, o, h1, fun i hi => h2 i (by omega)⟩)
  rw [← hn]
  clear hA hn hlen
  go_enter Tryd.func44, Tryd.ntmps44
  go_wp2
  have p0 := pcs_one H0.out
  have hB : Below w.heap.size w (w.alloc (.cells #[.slice A0 l0.length c0] 28)) := (Below.refl _ w).alloc (Nat.le_refl _) _
  generalize w.alloc (.cells #[.slice A0 l0.length c0] 28) = W0 at p0 hB ⊢
  go_loopw [7, 14] (fun v i wr => ∃ k : Nat, k ≤ n ∧ i = .int .i64 k ∧ Pcs wr w.heap.size v (l0 :: (is.take k).map fun n => hiL (wN n) 8) ∧ Below w.heap.size w wr) (fun _ i _ => n - (intOf i).toNat)
  case atStart => exact ⟨0, by omega, rfl, by simpa using p0, hB⟩
  case round =>
    obtain ⟨k, hk, rfl, hp, qB⟩ := hrel
    clear p0 hB
    by_cases hlt : k < n
    · obtain ⟨b, o, rfl, hcells⟩ := HA.out (by omega)
      have hcell := (qB.cell (p := ⟨b, o + k, none⟩) (World.block_lt_of_cell? _ _ (hcells k hlt))).trans (hcells k hlt)
      generalize hxx : is.getD k 0 = x at hcell
      have hll : (l0 :: (is.take k).map fun n => hiL (wN n) 8).length ≤ 900000 := by
        simp; omega
      have Hext : Hid ((is.take (k + 1)).map (fun n => hiL (wN n) 8) = (is.take k).map (fun n => hiL (wN n) 8) ++ [hiL (wN x) 8]) := Lib.hid (by
        rw [List.take_add_one, List.getElem?_eq_getElem (by rw [← Hn.out]; exact hlt)]
        have : is[k]'(by rw [← Hn.out]; exact hlt) = x := by rw [← hxx]; simp [List.getD, show k < is.length by rw [← Hn.out]; exact hlt]
        simp [this])
      have Hp := Lib.hid hp
      clear hxx hcells hp
      go_wp2_with (go_at_call 45; refine (wordPart_any _ x _ _ _ Hp.out qB.size hll).mono ?_; rintro e w2 ⟨v', rfl, hp2, hB2⟩)
      go_roundw
      case rel =>
        refine ⟨k + 1, by omega, by go_num, ?_, qB.trans hB2⟩
        have e := Hext.out
        rw [e]
        simpa using hp2
      case measure => simp [intOf]; omega
    · obtain rfl : k = n := by omega
      go_wp2
      go_ret
      refine ⟨_, rfl, qB, ?_⟩
      have := hp.parts
      rw [Hn.out, List.take_length] at this
      exact this
end Go.Proofs.YtcfogkimjbgjgaaDoor
/- Package mac: the tag of parts, by definition: what Tag returns. -/
namespace Go.Proofs.YtcfogkimjbgjgaaDoor
open Go Go.RowKit
set_option maxRecDepth 8000
set_option linter.all false
theorem masked_54 (b : Nat → UInt8) (w : World) : Cv 55 #[.agg (rowA 64 (bF b)), .int .u8 54] w (svRd (maskL b 54)) := masked_any b 54 w
theorem masked_92 (b : Nat → UInt8) (w : World) : Cv 55 #[.agg (rowA 64 (bF b)), .int .u8 92] w (svRd (maskL b 92)) := masked_any b 92 w
/-- The digest that is inside a tag. -/
def inL (key text : List UInt8) : Nat → UInt8 := shaL Kc Fc (maskL (keyB key) 54 ++ text)
/-- HMAC-SHA-256. -/
def tagL (key text : List UInt8) : Nat → UInt8 := shaL Kc Fc (maskL (keyB key) 92 ++ digL (inL key text))
set_option maxHeartbeats 2000000 in
theorem Tag_cv (kv pv : Value) (kl : List UInt8) (ls : List (List UInt8)) (D : Nat → UInt8) (w : World) (hT : Tables w) (hk : RdV w [] kv kl) (hkl : kl.length ≤ 1000000) (hp : Parts w pv ls) (hlen : ls.length ≤ 100000) (htot : ls.flatten.length ≤ 1000000) (hD : tagL kl ls.flatten = D) :
    Cv 38 #[kv, pv] w (.eq (.agg (rowA 32 (bF D)))) := by
  unfold Cv
  obtain ⟨E, HE⟩ := hid_ex (inL kl ls.flatten)
  obtain ⟨B, HB⟩ := hid_ex (keyB kl)
  have HD : Hid (shaL Kc Fc (maskL B 92 ++ digL E) = D) := Lib.hid (by rw [← hD, tagL, HB.out, HE.out])
  have HE2 : Hid (shaL Kc Fc (maskL B 54 ++ ls.flatten) = E) := Lib.hid (by rw [← HE.out, inL, HB.out])
  have HT := Lib.hid hT
  have Hk := Lib.hid hk
  have Hp := Lib.hid hp
  clear hT hk hp hD HE
  go_enter Tryd.func38, Tryd.ntmps38
  go_upto_region 1 with fail
  have r0 := rowIs_box w 26 32 (bF fun _ => 0)
  have hB0 := NewT.alloc w (.cells (rowA 32 (bF fun _ => 0)) 26)
  change Code.wp _ _ _ _ (w.alloc (.cells (rowA 32 (bF fun _ => 0)) 26))
  generalize w.alloc (.cells (rowA 32 (bF fun _ => 0)) 26) = W0 at r0 hB0 ⊢
  replace HT := Lib.hid (hB0.tables HT.out)
  replace Hk := Lib.hid (hB0.rd Hk.out)
  replace Hp := Lib.hid (hB0.partsL Hp.out)
  refine wp_region_seq NewT [svRd kl, SV.eq (.agg (rowA 64 (bF B))), svNew W0 84 64] [([(0, none)], none), ([(7, some 0)], none), ([], none)] 19 rfl rfl (by kernel_rfl) rfl NewT.trans (NewT.refl _) (Nat.le_of_ble_eq_true rfl) ⟨?_, ?_, ?_, trivial⟩ ?_
  · -- 0: Op.move t0
    intro a wx hT hF K hK
    obtain ⟨f0, _⟩ := hF
    have f0 : a.tmps.getD 0 undef = kv := f0
    refine rely_wp rfl ?_
    exact opr_move (.inl rfl) (hK _ _ (NewT.refl _) (by rw [eval_tmp, f0]; exact hT.rd Hk.out))
  · -- 1: Op.call ( value (Operand.func 54), args := #[t7], argTypes :
    intro a wx hT hF K hK
    obtain ⟨f7, _⟩ := hF
    replace f7 := show (svRd kl).pred (a.tmps.getD 7 undef) wx from f7
    refine rely_wp rfl ?_
    exact opr_cv (HB.out ▸ keyBlock_cv _ kl wx (hT.tables HT.out) f7 (by omega)) rfl Tryd.func54 (by kernel_rfl) (by kernel_rfl) (by simp only [List.map_toArray, List.map_cons, List.map_nil, eval_tmp]) hK
  · -- 2: Op.alloc 84
    intro a wx hT hF K hK
    refine rely_wp rfl ?_
    exact opr_alloc_64 rfl hT hK
  · intro wx hT
    intro u7 h; have g7 := h (by simp); clear h; replace g7 := show (svRd kl).pred u7 wx from g7
    intro u h; obtain rfl := h (by simp); clear h
    intro u5 h; obtain ⟨p5, hv, hp5, rr5⟩ := svNew_out (h (by simp)); clear h; subst hv
    refine relyEnd_nil rfl ?_
    simp only [Act.put, List.setIfInBounds_toArray, List.set_cons_zero, List.set_cons_succ]
    refine opr_store_new info64 rfl rfl rfl rr5 hT.out hp5 ?_
    clear hT rr5
    intro wy hT rr5
    replace hT := NewT.of hT
    go_simp
    replace HT := Lib.hid (hT.tables HT.out)
    replace Hp := Lib.hid (hT.partsL Hp.out)
    replace r0 := hT.row r0
    have hB1 := NewT.trans _ _ _ hB0 hT
    clear hT Hk g7 hp5 hB0
    go_upto_region 2 with fail
    refine wp_region_seq NewT [SV.eq (.agg (rowA 64 (bF B))), svRd (maskL B 54), svParts ls, svParts (maskL B 54 :: ls), SV.eq (.agg (rowA 32 (bF E))), svNew wy 26 32] [([(5, none)], none), ([(9, some 0)], none), ([(1, none)], none), ([(10, some 1), (11, some 2)], none), ([(12, some 3)], none), ([], none)] 19 rfl rfl (by kernel_rfl) rfl NewT.trans (NewT.refl _) (Nat.le_of_ble_eq_true rfl) ⟨?_, ?_, ?_, ?_, ?_, ?_, trivial⟩ ?_
    · -- 0: Op.load 84 t5
      intro a wx hT hF K hK
      obtain ⟨f5, _⟩ := hF
      have f5 : a.tmps.getD 5 undef = .pointer (some ⟨p5, 0, none⟩) := f5
      refine rely_wp rfl ?_
      exact opr_load_64 rfl f5 (hT.row rr5) (hK _ _ (NewT.refl _) rfl)
    · -- 1: Op.call ( value (Operand.func 55), args := #[t9, const (54:u
      intro a wx hT hF K hK
      obtain ⟨f9, _⟩ := hF
      have f9 : a.tmps.getD 9 undef = .agg (rowA 64 (bF B)) := f9
      refine rely_wp rfl ?_
      exact opr_cv (masked_54 B wx) rfl Tryd.func55 (by kernel_rfl) (by kernel_rfl) (by simp only [List.map_toArray, List.map_cons, List.map_nil, eval_tmp, eval_const, f9]) hK
    · -- 2: Op.move t1
      intro a wx hT hF K hK
      obtain ⟨f1, _⟩ := hF
      have f1 : a.tmps.getD 1 undef = pv := f1
      refine rely_wp rfl ?_
      exact opr_move (.inl rfl) (hK _ _ (NewT.refl _) (by rw [eval_tmp, f1]; exact hT.partsL Hp.out))
    · -- 3: Op.call ( value (Operand.func 52), args := #[t10, Operand.fu
      intro a wx hT hF K hK
      obtain ⟨f10, f11, _⟩ := hF
      replace f10 := show (svRd (maskL B 54)).pred (a.tmps.getD 10 undef) wx from f10
      replace f11 := show (svParts ls).pred (a.tmps.getD 11 undef) wx from f11
      refine rely_wp rfl ?_
      exact opr_cv (text_plain _ _ _ ls wx f10 f11 hlen) rfl Tryd.func52 (by kernel_rfl) (by kernel_rfl) (by simp only [List.map_toArray, List.map_cons, List.map_nil, eval_tmp, eval_func]) hK
    · -- 4: Op.call ( value (Operand.func 51), args := #[t12], argTypes 
      intro a wx hT hF K hK
      obtain ⟨f12, _⟩ := hF
      replace f12 := show (svParts (maskL B 54 :: ls)).pred (a.tmps.getD 12 undef) wx from f12
      refine rely_wp rfl ?_
      exact opr_cv (Sum_cv _ (maskL B 54 :: ls) E wx (hT.tables HT.out) f12 (by simp only [List.flatten_cons, List.length_append, maskL_length]; omega) (by simpa using HE2.out)) rfl Tryd.func51 (by kernel_rfl) (by kernel_rfl) (by simp only [List.map_toArray, List.map_cons, List.map_nil, eval_tmp]) hK
    · -- 5: Op.alloc 26
      intro a wx hT hF K hK
      refine rely_wp rfl ?_
      exact opr_alloc_hash rfl hT hK
    · intro wx hT
      intro u h; obtain rfl := h (by simp); clear h
      intro u10 h; have g10 := h (by simp); clear h; replace g10 := show (svRd (maskL B 54)).pred u10 wx from g10
      intro u11 h; have g11 := h (by simp); clear h; replace g11 := show (svParts ls).pred u11 wx from g11
      intro u12 h; have g12 := h (by simp); clear h; replace g12 := show (svParts (maskL B 54 :: ls)).pred u12 wx from g12
      intro u h; obtain rfl := h (by simp); clear h
      intro u6 h; obtain ⟨p6, hv, hp6, rr6⟩ := svNew_out (h (by simp)); clear h; subst hv
      refine relyEnd_nil rfl ?_
      simp only [Act.put, List.setIfInBounds_toArray, List.set_cons_zero, List.set_cons_succ]
      refine opr_store_new info31 rfl rfl rfl rr6 hT.out hp6 ?_
      clear hT rr6
      intro wz hT rr6
      replace hT := NewT.of hT
      go_simp
      replace HT := Lib.hid (hT.tables HT.out)
      replace r0 := hT.row r0
      replace rr5 := hT.row rr5
      have hB2 := NewT.trans _ _ _ hB1 hT
      clear hT g10 g11 g12 hp6 hB1 Hp HE2
      go_upto_region 3 with fail
      refine wp_region_rely NewT [SV.eq (.agg (rowA 64 (bF B))), svRd (maskL B 92), svRd (digL E), svParts [(maskL B 92), (digL E)], SV.eq (.agg (rowA 32 (bF D)))] [([(5, none)], none), ([(14, some 0)], none), ([(6, none)], none), ([(15, some 1), (16, some 2)], none), ([(17, some 3)], none)] 19 rfl (by kernel_rfl) rfl (by kernel_rfl) (by kernel_rfl) rfl NewT.trans (NewT.drew _) (Nat.le_of_ble_eq_true rfl) ⟨?_, ?_, ?_, ?_, ?_, trivial⟩ ?_
      · -- 0: Op.load 84 t5
        intro a wx hT hF K hK
        obtain ⟨f5, _⟩ := hF
        have f5 : a.tmps.getD 5 undef = .pointer (some ⟨p5, 0, none⟩) := f5
        refine rely_wp rfl ?_
        exact opr_load_64 rfl f5 (hT.row rr5) (hK _ _ (NewT.refl _) rfl)
      · -- 1: Op.call ( value (Operand.func 55), args := #[t14, const (92:
        intro a wx hT hF K hK
        obtain ⟨f14, _⟩ := hF
        have f14 : a.tmps.getD 14 undef = .agg (rowA 64 (bF B)) := f14
        refine rely_wp rfl ?_
        exact opr_cv (masked_92 B wx) rfl Tryd.func55 (by kernel_rfl) (by kernel_rfl) (by simp only [List.map_toArray, List.map_cons, List.map_nil, eval_tmp, eval_const, f14]) hK
      · -- 2: Op.slice 26 t6 none none none
        intro a wx hT hF K hK
        obtain ⟨f6, _⟩ := hF
        have f6 : a.tmps.getD 6 undef = .pointer (some ⟨p6, 0, none⟩) := f6
        refine rely_wp rfl ?_
        exact opr_slice_hash rfl f6 (hK _ _ (NewT.refl _) (rd_row (hT.row rr6) (by simp) (by omega)))
      · -- 3: Op.buildSlice 68 2 #[(0, t15), (1, t16)]
        intro a wx hT hF K hK
        obtain ⟨f15, f16, _⟩ := hF
        replace f15 := show (svRd (maskL B 92)).pred (a.tmps.getD 15 undef) wx from f15
        replace f16 := show (svRd (digL E)).pred (a.tmps.getD 16 undef) wx from f16
        refine rely_wp rfl ?_
        exact opr_bs2 rfl f15 f16 hK
      · -- 4: Op.call ( value (Operand.func 51), args := #[t17], argTypes 
        intro a wx hT hF K hK
        obtain ⟨f17, _⟩ := hF
        replace f17 := show (svParts [(maskL B 92), (digL E)]).pred (a.tmps.getD 17 undef) wx from f17
        refine rely_wp rfl ?_
        exact opr_cv (Sum_cv _ [maskL B 92, digL E] D wx (hT.tables HT.out) f17 (by simp [maskL_length, digL_length]) (by simpa using HD.out)) rfl Tryd.func51 (by kernel_rfl) (by kernel_rfl) (by simp only [List.map_toArray, List.map_cons, List.map_nil, eval_tmp]) hK
      · intro wx hT
        intro u h; obtain rfl := h (by simp); clear h
        intro u15 h; have g15 := h (by simp); clear h; replace g15 := show (svRd (maskL B 92)).pred u15 wx from g15
        intro u16 h; have g16 := h (by simp); clear h; replace g16 := show (svRd (digL E)).pred u16 wx from g16
        intro u17 h; have g17 := h (by simp); clear h; replace g17 := show (svParts [(maskL B 92), (digL E)]).pred u17 wx from g17
        intro u h; obtain rfl := h (by simp); clear h
        refine relyEnd_nil rfl ?_
        simp only [Act.put, List.setIfInBounds_toArray, List.set_cons_zero, List.set_cons_succ]
        refine opr_store_new (B := w.heap.size) (W := w) info31 rfl rfl rfl (hT.row r0) (NewT.trans _ _ _ hB2 hT) (Nat.le_refl _) ?_
        intro w9 hB9 r9
        go_simp
        go_wp2
        exact bodyPost_ret (results_row rfl _ rfl r9 Tryd.underlying26 info31) rfl ⟨_, rfl, hB9, rfl⟩
end Go.Proofs.YtcfogkimjbgjgaaDoor
/- Package mac: the digest of a domain: what Of returns. -/
namespace Go.Proofs.YtcfogkimjbgjgaaDoor
open Go Go.RowKit
set_option maxRecDepth 8000
set_option linter.all false
/-- The low byte of a number. -/
def dB (n : Int) : UInt8 := UInt8.ofNat (n % 256).toNat
theorem dB_eq (n : Int) : IntKind.u8.wrap n = bN (dB n) := by rw [wrap_u8, dB, bN, UInt8.toNat_ofNat']; omega
/-- The text of a domain and parts. -/
def ofL (n : Int) (ls : List (List UInt8)) : List UInt8 := dB n :: (ls.flatMap cntP).flatten
theorem ofL_length (n : Int) (ls : List (List UInt8)) : (ofL n ls).length = 1 + 4 * ls.length + ls.flatten.length := by
  unfold ofL
  rw [List.length_cons]
  induction ls with
  | nil => rfl
  | cons x ls ih => simp [cntP, hiL_length] at ih ⊢; omega
set_option maxHeartbeats 2000000 in
theorem Of_cv (n : Int) (pv : Value) (ls : List (List UInt8)) (D : Nat → UInt8) (w : World) (hT : Tables w) (hp : Parts w pv ls) (hlen : ls.length ≤ 100000) (htot : ls.flatten.length ≤ 1000000) (hD : shaL Kc Fc (ofL n ls) = D) :
    Cv 36 #[.int .i64 n, pv] w (.eq (.agg (rowA 32 (bF D)))) := by
  unfold Cv
  have HD := Lib.hid hD
  have HT := Lib.hid hT
  have Hp := Lib.hid hp
  have hdb := dB_eq n
  have hol := ofL_length n ls
  have Hol := Lib.hid hol
  clear hT hp hD hol
  go_enter Tryd.func36, Tryd.ntmps36
  go_upto_region 1 with fail
  have r0 := rowIs_box w 26 32 (bF fun _ => 0)
  have hB0 := NewT.alloc w (.cells (rowA 32 (bF fun _ => 0)) 26)
  change Code.wp _ _ _ _ (w.alloc (.cells (rowA 32 (bF fun _ => 0)) 26))
  generalize w.alloc (.cells (rowA 32 (bF fun _ => 0)) 26) = W0 at r0 hB0 ⊢
  replace HT := Lib.hid (hB0.tables HT.out)
  replace Hp := Lib.hid (hB0.partsL Hp.out)
  refine wp_region_seq NewT [SV.eq (.int .i64 n), SV.eq (.int .u8 (bN (dB n))), svRd [dB n], svParts ls, svParts ([dB n] :: ls.flatMap cntP), SV.eq (.agg (rowA 32 (bF D)))] [([(0, none)], none), ([(5, some 0)], none), ([(6, some 1)], none), ([(1, none)], none), ([(7, some 2), (8, some 3)], none), ([(9, some 4)], none)] 11 rfl rfl (by kernel_rfl) rfl NewT.trans (NewT.refl _) (Nat.le_of_ble_eq_true rfl) ⟨?_, ?_, ?_, ?_, ?_, ?_, trivial⟩ ?_
  · -- 0: Op.move t0
    intro a wx hT hF K hK
    obtain ⟨f0, _⟩ := hF
    have f0 : a.tmps.getD 0 undef = .int .i64 n := f0
    refine rely_wp rfl ?_
    exact opr_move (.inl rfl) (hK _ _ (NewT.refl _) f0)
  · -- 1: Op.convert 3 5 t5
    intro a wx hT hF K hK
    obtain ⟨f5, _⟩ := hF
    have f5 : a.tmps.getD 5 undef = .int .i64 n := f5
    refine rely_wp rfl ?_
    simp only [Array.getD_eq_getD_getElem?] at f5
    go_simp
    exact hK _ _ (NewT.refl _) rfl
  · -- 2: Op.buildSlice 28 1 #[(0, t6)]
    intro a wx hT hF K hK
    obtain ⟨f6, _⟩ := hF
    have f6 : a.tmps.getD 6 undef = .int .u8 (bN (dB n)) := f6
    refine rely_wp rfl ?_
    exact opr_bsb1 rfl f6 hK
  · -- 3: Op.move t1
    intro a wx hT hF K hK
    obtain ⟨f1, _⟩ := hF
    have f1 : a.tmps.getD 1 undef = pv := f1
    refine rely_wp rfl ?_
    exact opr_move (.inl rfl) (hK _ _ (NewT.refl _) (by rw [eval_tmp, f1]; exact hT.partsL Hp.out))
  · -- 4: Op.call ( value (Operand.func 52), args := #[t7, Operand.fun
    intro a wx hT hF K hK
    obtain ⟨f7, f8, _⟩ := hF
    replace f7 := show (svRd [dB n]).pred (a.tmps.getD 7 undef) wx from f7
    replace f8 := show (svParts ls).pred (a.tmps.getD 8 undef) wx from f8
    refine rely_wp rfl ?_
    exact opr_cv (text_counted _ _ [dB n] ls wx f7 f8 hlen) rfl Tryd.func52 (by kernel_rfl) (by kernel_rfl) (by simp only [List.map_toArray, List.map_cons, List.map_nil, eval_tmp, eval_func]) hK
  · -- 5: Op.call ( value (Operand.func 51), args := #[t9], argTypes :
    intro a wx hT hF K hK
    obtain ⟨f9, _⟩ := hF
    replace f9 := show (svParts ([dB n] :: ls.flatMap cntP)).pred (a.tmps.getD 9 undef) wx from f9
    refine rely_wp rfl ?_
    exact opr_cv (Sum_cv _ ([dB n] :: ls.flatMap cntP) D wx (hT.tables HT.out) f9 (by show (ofL n ls).length ≤ _; have := Hol.out; omega) (by simpa [ofL] using HD.out)) rfl Tryd.func51 (by kernel_rfl) (by kernel_rfl) (by simp only [List.map_toArray, List.map_cons, List.map_nil, eval_tmp]) hK
  · intro wx hT
    intro u h; obtain rfl := h (by simp); clear h
    intro u h; obtain rfl := h (by simp); clear h
    intro u7 h; have g7 := h (by simp); clear h; replace g7 := show (svRd [dB n]).pred u7 wx from g7
    intro u8 h; have g8 := h (by simp); clear h; replace g8 := show (svParts ls).pred u8 wx from g8
    intro u9 h; have g9 := h (by simp); clear h; replace g9 := show (svParts ([dB n] :: ls.flatMap cntP)).pred u9 wx from g9
    intro u h; obtain rfl := h (by simp); clear h
    refine relyEnd_nil rfl ?_
    simp only [Act.put, List.setIfInBounds_toArray, List.set_cons_zero, List.set_cons_succ]
    refine opr_store_new (B := w.heap.size) (W := w) info31 rfl rfl rfl (hT.row r0) (NewT.trans _ _ _ hB0 hT) (Nat.le_refl _) ?_
    intro w9 hB9 r9
    go_simp
    go_wp2
    exact bodyPost_ret (results_row rfl _ rfl r9 Tryd.underlying26 info31) rfl ⟨_, rfl, hB9, rfl⟩
end Go.Proofs.YtcfogkimjbgjgaaDoor
/- Package mac: the tag of words: what Key returns. -/
namespace Go.Proofs.YtcfogkimjbgjgaaDoor
open Go Go.RowKit
set_option maxRecDepth 8000
set_option linter.all false
theorem rd_nil (w : World) (L : List Nat) : RdV w L (.slice none 0 0) [] := ⟨none, 0, rfl, Nat.le_refl _, by unfold maxLen; omega, fun h => absurd h (by simp)⟩
/-- The text of words. -/
def wordsL (is : List Int) : List UInt8 := (is.map fun n => hiL (wN n) 8).flatten
theorem wordsL_length (is : List Int) : (wordsL is).length = 8 * is.length := by
  unfold wordsL
  induction is with
  | nil => rfl
  | cons x is ih => simp [hiL_length] at ih ⊢; omega
set_option maxHeartbeats 2000000 in
theorem Key_cv (d : Nat → UInt8) (iv : Value) (is : List Int) (D : Nat → UInt8) (w : World) (hT : Tables w) (hp : RdI w iv is) (hlen : is.length ≤ 10000) (hD : tagL (digL d) (wordsL is) = D) :
    Cv 28 #[.agg (rowA 32 (bF d)), iv] w (.eq (.agg (rowA 32 (bF D)))) := by
  unfold Cv
  have HD := Lib.hid hD
  have HT := Lib.hid hT
  have Hp := Lib.hid hp
  have Hwl := Lib.hid (wordsL_length is)
  clear hT hp hD
  go_enter Tryd.func28, Tryd.ntmps28
  go_upto_region 1 with fail
  have rk := (rowIs_box w 26 32 (bF d)).alloc (.cells (rowA 32 (bF fun _ => 0)) 26)
  have r0 := rowIs_box (w.alloc (.cells (rowA 32 (bF d)) 26)) 26 32 (bF fun _ => 0)
  rw [World.size_alloc] at r0
  have hB0 := NewT.trans _ _ _ (NewT.alloc w (.cells (rowA 32 (bF d)) 26)) (NewT.alloc (w.alloc (.cells (rowA 32 (bF d)) 26)) (.cells (rowA 32 (bF fun _ => 0)) 26))
  change Code.wp _ _ _ _ ((w.alloc (.cells (rowA 32 (bF d)) 26)).alloc (.cells (rowA 32 (bF fun _ => 0)) 26))
  generalize ((w.alloc (.cells (rowA 32 (bF d)) 26)).alloc (.cells (rowA 32 (bF fun _ => 0)) 26)) = W0 at rk r0 hB0 ⊢
  replace HT := Lib.hid (hB0.tables HT.out)
  replace Hp := Lib.hid (hB0.ints Hp.out)
  refine wp_region_rely NewT [svRd (digL d), svInts is, svParts ([] :: is.map fun n => hiL (wN n) 8), SV.eq (.agg (rowA 32 (bF D)))] [([(2, none)], none), ([(1, none)], none), ([(6, some 1)], none), ([(5, some 0), (7, some 2)], none)] 9 rfl (by kernel_rfl) rfl (by kernel_rfl) (by kernel_rfl) rfl NewT.trans (NewT.drew _) (Nat.le_of_ble_eq_true rfl) ⟨?_, ?_, ?_, ?_, trivial⟩ ?_
  · -- 0: Op.slice 26 t2 none none none
    intro a wx hT hF K hK
    obtain ⟨f2, _⟩ := hF
    have f2 : a.tmps.getD 2 undef = .pointer (some ⟨w.heap.size, 0, none⟩) := f2
    refine rely_wp rfl ?_
    exact opr_slice_hash rfl f2 (hK _ _ (NewT.refl _) (rd_row (hT.row rk) (by simp) (by omega)))
  · -- 1: Op.move t1
    intro a wx hT hF K hK
    obtain ⟨f1, _⟩ := hF
    have f1 : a.tmps.getD 1 undef = iv := f1
    refine rely_wp rfl ?_
    exact opr_move (.inl rfl) (hK _ _ (NewT.refl _) (by rw [eval_tmp, f1]; exact hT.ints Hp.out))
  · -- 2: Op.call ( value (Operand.func 44), args := #[const (Value.sl
    intro a wx hT hF K hK
    obtain ⟨f6, _⟩ := hF
    replace f6 := show (svInts is).pred (a.tmps.getD 6 undef) wx from f6
    refine rely_wp rfl ?_
    exact opr_cv (text_words _ _ [] is wx (rd_nil _ _) f6 (by omega)) rfl Tryd.func44 (by kernel_rfl) (by kernel_rfl) (by simp only [List.map_toArray, List.map_cons, List.map_nil, eval_tmp, eval_const, eval_func]) hK
  · -- 3: Op.call ( value (Operand.func 38), args := #[t5, t7], argTyp
    intro a wx hT hF K hK
    obtain ⟨f5, f7, _⟩ := hF
    replace f5 := show (svRd (digL d)).pred (a.tmps.getD 5 undef) wx from f5
    replace f7 := show (svParts ([] :: is.map fun n => hiL (wN n) 8)).pred (a.tmps.getD 7 undef) wx from f7
    refine rely_wp rfl ?_
    exact opr_cv (Tag_cv _ _ (digL d) ([] :: is.map fun n => hiL (wN n) 8) D wx (hT.tables HT.out) f5 (by rw [digL_length]; omega) f7 (by simp; omega) (by show (wordsL is).length ≤ _; have := Hwl.out; omega) (by simpa [wordsL] using HD.out)) rfl Tryd.func38 (by kernel_rfl) (by kernel_rfl) (by simp only [List.map_toArray, List.map_cons, List.map_nil, eval_tmp]) hK
  · intro wx hT
    intro u5 h; have g5 := h (by simp); clear h; replace g5 := show (svRd (digL d)).pred u5 wx from g5
    intro u6 h; have g6 := h (by simp); clear h; replace g6 := show (svInts is).pred u6 wx from g6
    intro u7 h; have g7 := h (by simp); clear h; replace g7 := show (svParts ([] :: is.map fun n => hiL (wN n) 8)).pred u7 wx from g7
    intro u h; obtain rfl := h (by simp); clear h
    refine relyEnd_nil rfl ?_
    simp only [Act.put, List.setIfInBounds_toArray, List.set_cons_zero, List.set_cons_succ]
    refine opr_store_new (B := w.heap.size) (W := w) info31 rfl rfl rfl (hT.row r0) (NewT.trans _ _ _ hB0 hT) (Nat.le_succ _) ?_
    intro w9 hB9 r9
    go_simp
    go_wp2
    exact bodyPost_ret (results_row rfl _ rfl r9 Tryd.underlying26 info31) rfl ⟨_, rfl, hB9, rfl⟩
end Go.Proofs.YtcfogkimjbgjgaaDoor
/- Keys, checkpoints and marks in memory: fields, loads, builds; method values; an array of them. -/
namespace Go.Proofs.YtcfogkimjbgjgaaDoor
open Go Go.RowKit
set_option maxRecDepth 8000
set_option linter.all false
/-- What tags are: a key's, a mark's; a checkpoint's text. -/
structure KeyH (kf : Hs → List Int → Hs) (tg : Hs → Hs → Hs) (pf : Int → Hs → Hs) : Prop where
  key : ∀ d is, tagL (digL d) (wordsL is) = kf d is
  tag : ∀ s d, tagL (digL s) (3 :: digL d) = tg s d
  pt : ∀ n d, shaL Kc Fc (ofL 6 [numI n, digL d]) = pf n d
theorem keyH_ex : ∃ kf tg pf, KeyH kf tg pf := ⟨_, _, _, ⟨fun _ _ => rfl, fun _ _ => rfl, fun _ _ => rfl⟩⟩
theorem info_hsl : (Tryd.prog.info? 22).map (·.size) = some (0 + 1) := by kernel_rfl
theorem info_ssl : (Tryd.prog.info? 38).map (·.size) = some (0 + 1) := by kernel_rfl
theorem info_due : (Tryd.prog.info? 61).map (·.size) = some 32 := by kernel_rfl
theorem info_ky : (Tryd.prog.info? 24).map (·.size) = some 3 := by kernel_rfl
theorem info_pt : (Tryd.prog.info? 40).map (·.size) = some 34 := by kernel_rfl
theorem keyF_one {w : World} {pv wv : Value} {ps ws : List Hs} {need : Int} (hp : RdH w pv ps) (hw : RdH w wv ws) (i : Nat) : (keyF pv wv need i).oneCell' = true := by
  obtain ⟨_, _, rfl, _⟩ := hp
  obtain ⟨_, _, rfl, _⟩ := hw
  unfold keyF
  split <;> try rfl
  split <;> rfl
theorem ptF_one {w : World} {size : Int} {root : Hs} {sv : Value} {l : List (Int × Hs)} (hs : RdS w sv l) (i : Nat) : (ptF size root sv i).oneCell' = true := by
  obtain ⟨_, _, rfl, _⟩ := hs
  unfold ptF
  split <;> try rfl
  split <;> rfl
theorem sigF_one (d : Int × Hs) (i : Nat) : (sigF d i).oneCell' = true := by unfold sigF; split <;> rfl
theorem ptF_h (size : Int) (root : Hs) (sv : Value) (j : Nat) (h : j < 32) : ptF size root sv (1 + j) = bF root j := by
  unfold ptF
  rw [if_neg (by omega), if_pos (by omega), show 1 + j - 1 = j by omega]
theorem sigF_h (d : Int × Hs) (j : Nat) (h : j < 32) : sigF d (1 + j) = bF d.2 j := by
  unfold sigF
  rw [if_neg (by omega), show 1 + j - 1 = j by omega]
theorem build_z32 (w : World) : (Instr.build 26 #[]).run Tryd.prog w = .ok (.agg (rowA 32 (bF z32))) w := by kernel_rfl
theorem run_bsI2 (x y : Int) (w : World) : (Instr.buildSlice 58 2 #[(0, .int .i64 x), (1, .int .i64 y)]).run Tryd.prog w = .ok (.slice (some ⟨w.heap.size, 0, none⟩) 2 2) (w.alloc (.cells #[.int .i64 x, .int .i64 y] 3)) := by kernel_rfl
theorem run_bsI5 (x y z p q : Int) (w : World) : (Instr.buildSlice 58 5 #[(0, .int .i64 x), (1, .int .i64 y), (2, .int .i64 z), (3, .int .i64 p), (4, .int .i64 q)]).run Tryd.prog w = .ok (.slice (some ⟨w.heap.size, 0, none⟩) 5 5) (w.alloc (.cells #[.int .i64 x, .int .i64 y, .int .i64 z, .int .i64 p, .int .i64 q] 3)) := by kernel_rfl
theorem rdI_lit (w : World) (l : List Int) (hl : l.length ≤ 1000) : RdI (w.alloc (.cells (l.map fun n => .int .i64 n).toArray 3)) (.slice (some ⟨w.heap.size, 0, none⟩) l.length l.length) l := by
  refine ⟨some ⟨w.heap.size, 0, none⟩, l.length, rfl, Nat.le_refl _, by unfold maxLen; omega, fun _ => ⟨w.heap.size, 0, rfl, fun i hi => ?_⟩⟩
  rw [Nat.zero_add, cell_new_fr _ _ _ _ _ _ rfl]
  simp [hi, List.getD]
section
variable {a : Act} {w : World} {o : Oper} {K : Act → World → Prop} {Q : Exit → Act → World → Prop} {x y z : Operand} {g n o0 : Nat} {t' : TypeId} {F : Nat → Value} {v : Value}
theorem opr_fldY0 (ho : o.op = .fieldAddr 24 x 0) (hx : a.eval x = .pointer (some ⟨g, 0, none⟩)) (h : K (a.put o.dst (.pointer (some ⟨g, 0, none⟩))) w) : o.wp Tryd.prog a w K Q :=
  opr_fld Tryd.underlying24 rfl info_hsl ho hx (by rfl) h
theorem opr_fldY1 (ho : o.op = .fieldAddr 24 x 1) (hx : a.eval x = .pointer (some ⟨g, 0, none⟩)) (h : K (a.put o.dst (.pointer (some ⟨g, 1, none⟩))) w) : o.wp Tryd.prog a w K Q :=
  opr_fld Tryd.underlying24 rfl info_hsl ho hx (by rfl) h
theorem opr_fldY2 (ho : o.op = .fieldAddr 24 x 2) (hx : a.eval x = .pointer (some ⟨g, 0, none⟩)) (h : K (a.put o.dst (.pointer (some ⟨g, 2, none⟩))) w) : o.wp Tryd.prog a w K Q :=
  opr_fld Tryd.underlying24 rfl info_int ho hx (by rfl) h
theorem opr_fldZ0 (ho : o.op = .fieldAddr 40 x 0) (hx : a.eval x = .pointer (some ⟨g, 0, none⟩)) (h : K (a.put o.dst (.pointer (some ⟨g, 0, none⟩))) w) : o.wp Tryd.prog a w K Q :=
  opr_fld Tryd.underlying40 rfl info_int ho hx (by rfl) h
theorem opr_fldZ1 (ho : o.op = .fieldAddr 40 x 1) (hx : a.eval x = .pointer (some ⟨g, 0, none⟩)) (h : K (a.put o.dst (.pointer (some ⟨g, 1, none⟩))) w) : o.wp Tryd.prog a w K Q :=
  opr_fld Tryd.underlying40 rfl info_hash1 ho hx (by rfl) h
theorem opr_fldZ2 (ho : o.op = .fieldAddr 40 x 2) (hx : a.eval x = .pointer (some ⟨g, 0, none⟩)) (h : K (a.put o.dst (.pointer (some ⟨g, 33, none⟩))) w) : o.wp Tryd.prog a w K Q :=
  opr_fld Tryd.underlying40 rfl info_ssl ho hx (by rfl) h
theorem opr_fldX0 (ho : o.op = .fieldAddr 49 x 0) (hx : a.eval x = .pointer (some ⟨g, o0, none⟩)) (h : K (a.put o.dst (.pointer (some ⟨g, o0, none⟩))) w) : o.wp Tryd.prog a w K Q :=
  opr_fld Tryd.underlying49 rfl info_int ho hx (by rfl) h
theorem opr_fldX1 (ho : o.op = .fieldAddr 49 x 1) (hx : a.eval x = .pointer (some ⟨g, o0, none⟩)) (h : K (a.put o.dst (.pointer (some ⟨g, o0 + 1, none⟩))) w) : o.wp Tryd.prog a w K Q :=
  opr_fld Tryd.underlying49 rfl info_hash1 ho hx (by rfl) h
theorem opr_ldGs (hr : w.rowIs g t' n F) (hn : o0 < n) (hv : F o0 = v) (ho : o.op = .load 38 x) (hx : a.eval x = .pointer (some ⟨g, o0, none⟩)) (h : K (a.put o.dst v) w) : o.wp Tryd.prog a w K Q :=
  opr_ld1 Tryd.underlying38 rfl ho hx (by rw [hr.cell hn, hv]) h
theorem opr_ldY (hr : w.rowIs g t' 3 F) (ho : o.op = .load 24 x) (hx : a.eval x = .pointer (some ⟨g, 0, none⟩)) (h : K (a.put o.dst (.agg (rowA 3 F))) w) : o.wp Tryd.prog a w K Q := by
  refine opr_ldm Tryd.underlying24 rfl info_ky ho hx hr (by omega) ?_
  simpa using h
theorem opr_ldZ (hr : w.rowIs g t' 34 F) (ho : o.op = .load 40 x) (hx : a.eval x = .pointer (some ⟨g, 0, none⟩)) (h : K (a.put o.dst (.agg (rowA 34 F))) w) : o.wp Tryd.prog a w K Q := by
  refine opr_ldm Tryd.underlying40 rfl info_pt ho hx hr (by omega) ?_
  simpa using h
theorem opr_ldX (hr : w.rowIs g t' 33 F) (ho : o.op = .load 49 x) (hx : a.eval x = .pointer (some ⟨g, 0, none⟩)) (h : K (a.put o.dst (.agg (rowA 33 F))) w) : o.wp Tryd.prog a w K Q := by
  refine opr_ldm Tryd.underlying49 rfl infoGs ho hx hr (by omega) ?_
  simpa using h
theorem opr_ldDue {d : Hs} (hr : w.rowIs g t' 32 (bF d)) (ho : o.op = .load 61 x) (hx : a.eval x = .pointer (some ⟨g, 0, none⟩)) (h : K (a.put o.dst (.agg (rowA 32 (bF d)))) w) : o.wp Tryd.prog a w K Q := by
  refine opr_ldm Tryd.underlying61 rfl info_due ho hx hr (by omega) ?_
  simpa using h
/-- A slice of an element's hash, whole. -/
theorem opr_slicePd {d : Hs} (ho : o.op = .slice 26 x none none none) (hx : (svP d).pred (a.eval x) w) (h : ∀ v, RdV w [] v (digL d) → K (a.put o.dst v) w) : o.wp Tryd.prog a w K Q := by
  obtain ⟨b, off, hv, hc⟩ := hx
  refine opr_sliceH ho hv (h _ ?_)
  refine ⟨some ⟨b, off, none⟩, 32, by rw [digL_length], by rw [digL_length]; omega, by unfold maxLen; omega, fun _ => ⟨b, off, rfl, by simp, fun i hi => ?_⟩⟩
  rw [digL_length] at hi
  rw [hc i hi, bF_at]
  simp [bAt, digL, hi]
theorem opr_bsI2 {p q : Int} (ho : o.op = .buildSlice 58 2 #[(0, x), (1, y)]) (hx : a.eval x = .int .i64 p) (hy : a.eval y = .int .i64 q) (h : ∀ v w', NewT w w' → RdI w' v [p, q] → K (a.put o.dst v) w') : o.wp Tryd.prog a w K Q := by
  obtain ⟨dst, op, type, pos, after, guard⟩ := o
  simp only at ho
  subst ho
  exact opr_val (s := Instr.buildSlice 58 2 #[(0, a.eval x), (1, a.eval y)]) (by simp [execOp]) (by rw [hx, hy]; exact run_bsI2 p q w) (h _ _ (NewT.alloc _ _) (rdI_lit w [p, q] (by simp)))
theorem opr_bsI5 {x1 x2 x3 x4 x5 : Operand} {p q r s t : Int} (ho : o.op = .buildSlice 58 5 #[(0, x1), (1, x2), (2, x3), (3, x4), (4, x5)]) (h1 : a.eval x1 = .int .i64 p) (h2 : a.eval x2 = .int .i64 q) (h3 : a.eval x3 = .int .i64 r) (h4 : a.eval x4 = .int .i64 s) (h5 : a.eval x5 = .int .i64 t) (h : ∀ v w', NewT w w' → RdI w' v [p, q, r, s, t] → K (a.put o.dst v) w') : o.wp Tryd.prog a w K Q := by
  obtain ⟨dst, op, type, pos, after, guard⟩ := o
  simp only at ho
  subst ho
  exact opr_val (s := Instr.buildSlice 58 5 #[(0, a.eval x1), (1, a.eval x2), (2, a.eval x3), (3, a.eval x4), (4, a.eval x5)]) (by simp [execOp]) (by rw [h1, h2, h3, h4, h5]; exact run_bsI5 p q r s t w) (h _ _ (NewT.alloc _ _) (rdI_lit w [p, q, r, s, t] (by simp)))
/-- A method value: a receiver's value is bound. -/
theorem opr_mkm {P : Program} {fid : Nat} {u : Value} (ho : o.op = .makeFunc (.func fid) #[x] #[]) (hx : a.eval x = u) (h : K (a.put o.dst (.func (.func fid) #[u] #[])) w) : o.wp P a w K Q := by
  obtain ⟨dst, op, type, pos, after, guard⟩ := o
  simp only at ho
  subst ho
  subst hx
  exact opr_val (s := Instr.makeFunc (.func fid) #[a.eval x] #[]) (by simp [execOp]) rfl h
/-- A call of a method value. -/
theorem opr_cvm {f : Nat} {fn : Func} {args : Array Operand} {ts : Array TypeId} {vs : Array Value} {u : Value} {c : SV NewT} (hc : Cv f vs w c)
    (ho : o.op = .call { callee := .value x, args := args, argTypes := ts }) (hx : a.eval x = .func (.func f) #[u] #[]) (hf : Tryd.prog.funcs[f]? = some fn) (hn : (fn.name == "runtime.NumGoroutine") = false) (hb : fn.body.isNone = false) (hv : #[u] ++ args.map a.eval = vs)
    (h : ∀ v w', NewT w w' → c.pred v w' → K (a.put o.dst v) w') : o.wp Tryd.prog a w K Q := by
  obtain ⟨dst, op, type, pos, after, guard⟩ := o
  simp only at ho
  subst ho
  have e : execOp a.eval { dst, op := .call { callee := .value x, args := args, argTypes := ts }, type, pos, after, guard } = callFunc f vs := by
    show (do let d ← resolve a.eval { callee := .value x, args := args, argTypes := ts } type; invoke d.target d.args) = _
    simp only [resolve, Deferred.ofValue, hx, invoke, pure_bind]
    rw [← hv]; simp
  unfold Oper.wp
  rw [e, run_callFunc_go hf hn hb, Oper.upon_enter]
  refine Calls.mono hc ?_
  rintro e w' ⟨v, rfl, h1, h2⟩
  exact h v w' h1 h2
end
end Go.Proofs.YtcfogkimjbgjgaaDoor
/- Package keys: ranges; which keys may be; who has a key. -/
namespace Go.Proofs.YtcfogkimjbgjgaaDoor
open Go Go.RowKit
set_option maxRecDepth 8000
set_option linter.all false
set_option maxHeartbeats 400000 in
theorem kWithin_cv (n lo hi : Int) (w : World) : Cv 26 #[.int .i64 n, .int .i64 lo, .int .i64 hi] w (.eq (.bool (inR n lo hi))) := by
  unfold Cv
  go_enter Tryd.func26, Tryd.ntmps26
  go_upto_region 1 with fail
  obtain ⟨q1_1, Q1_1⟩ : ∃ bq_, ((decide (lo ≤ n)) && (decide (n ≤ hi))) = bq_ := ⟨_, rfl⟩
  refine wp_region_steps0 NewT [SV.eq (.int .i64 (lo)), SV.eq (.int .i64 (n)), SV.eq (.bool (decide (lo ≤ n))), SV.eq (.bool (decide (lo ≤ n))), svIf (decide (lo ≤ n)) (SV.eq (.int .i64 (n))), svIf (decide (lo ≤ n)) (SV.eq (.int .i64 (hi))), svIf (decide (lo ≤ n)) (SV.eq (.bool (decide (n ≤ hi)))), SV.eq (.bool (q1_1)), SV.eq (.bool (q1_1))] [([(1, none)], none), ([(0, none)], none), ([(7, some 0), (8, some 1)], none), ([(9, some 2)], none), ([(0, none), (10, some 3)], some (10, true)), ([(2, none), (10, some 3)], some (10, true)), ([(11, some 4), (12, some 5), (10, some 3)], some (10, true)), ([(10, some 3), (13, some 6)], none), ([(14, some 7)], none)] 15 9 rfl rfl (by kernel_rfl) NewT.trans (NewT.refl _) (Nat.le_of_ble_eq_true rfl) ⟨?_, ?_, ?_, ?_, ?_, ?_, ?_, ?_, ?_, trivial⟩ ?_
  · exact fun a wx hT hF K hK => rely_wp rfl (opr_move (.inl rfl) (hK _ _ (NewT.refl _) hF.1))
  · exact fun a wx hT hF K hK => rely_wp rfl (opr_move (.inl rfl) (hK _ _ (NewT.refl _) hF.1))
  · exact fun a wx hT hF K hK => rely_wp rfl (opr_cmp (b := decide (lo ≤ n)) (.inr (.inr (.inl ⟨rfl, rfl⟩))) Tryd.underlying3 rfl hF.1 hF.2.1 (hK _ _ (NewT.refl _) rfl))
  · exact fun a wx hT hF K hK => rely_wp rfl (opr_move (.inl rfl) (hK _ _ (NewT.refl _) hF.1))
  · exact fun a wx hT hF K hK => rely_if (rely_gt hF.2.1) (NewT.refl _) hK fun hE hK => opr_move (.inl rfl) (hK _ _ (NewT.refl _) hF.1)
  · exact fun a wx hT hF K hK => rely_if (rely_gt hF.2.1) (NewT.refl _) hK fun hE hK => opr_move (.inl rfl) (hK _ _ (NewT.refl _) hF.1)
  · exact fun a wx hT hF K hK => rely_if (rely_gt hF.2.2.1) (NewT.refl _) hK fun hE hK => opr_cmp (b := decide (n ≤ hi)) (.inr (.inr (.inl ⟨rfl, rfl⟩))) Tryd.underlying3 rfl (hF.1 hE) (hF.2.1 hE) (hK _ _ (NewT.refl _) rfl)
  · exact fun a wx hT hF K hK => rely_wp rfl (opr_pick_b rfl hF.1 (fun hb => hK _ _ (NewT.refl _) (pn_and1 Q1_1 (hF.2.1 hb) hb)) (fun hb => hK _ _ (NewT.refl _) (pn_and0 Q1_1 hb)))
  · exact fun a wx hT hF K hK => rely_wp rfl (opr_move (.inr rfl) (hK _ _ (NewT.refl _) hF.1))
  · intro wx hT
    iterate 4 (intro u h; obtain rfl := Eq.symm (h (by simp)); clear h)
    iterate 3 (intro _ _)
    iterate 2 (intro u h; obtain rfl := Eq.symm (h (by simp)); clear h)
    subst Q1_1
    refine relyEnd_nil rfl ?_
    refine wpList_end rfl ?_
    simp only [Act.put, List.setIfInBounds_toArray, List.set_cons_zero, List.set_cons_succ]
    go_simp
    go_wp2
    go_ret
    exact ⟨_, rfl, hT, rfl⟩
set_option maxHeartbeats 400000 in
theorem kSize_cv (n : Int) (w : World) : Cv 35 #[.int .i64 n] w (.eq (.bool (inR n 0 400))) := by
  unfold Cv
  go_enter Tryd.func35, Tryd.ntmps35
  go_upto_region 1 with fail
  refine wp_region_steps0 NewT [SV.eq (.int .i64 (n)), SV.eq (.bool (inR n 0 400)), SV.eq (.bool (inR n 0 400))] [([(0, none)], none), ([(3, some 0)], none), ([(4, some 1)], none)] 5 3 rfl rfl (by kernel_rfl) NewT.trans (NewT.refl _) (Nat.le_of_ble_eq_true rfl) ⟨?_, ?_, ?_, trivial⟩ ?_
  · exact fun a wx hT hF K hK => rely_wp rfl (opr_move (.inl rfl) (hK _ _ (NewT.refl _) hF.1))
  · exact fun a wx hT hF K hK => rely_wp rfl (opr_cv (kWithin_cv n 0 400 wx) rfl Tryd.func26 (by kernel_rfl) (by kernel_rfl) (evs3 hF.1 rfl rfl) hK)
  · exact fun a wx hT hF K hK => rely_wp rfl (opr_move (.inr rfl) (hK _ _ (NewT.refl _) hF.1))
  · intro wx hT
    iterate 3 (intro u h; obtain rfl := Eq.symm (h (by simp)); clear h)
    refine relyEnd_nil rfl ?_
    refine wpList_end rfl ?_
    simp only [Act.put, List.setIfInBounds_toArray, List.set_cons_zero, List.set_cons_succ]
    go_simp
    go_wp2
    go_ret
    exact ⟨_, rfl, hT, rfl⟩
set_option maxHeartbeats 400000 in
theorem kPlace_cv (n : Int) (v : Value) (l : List Hs) (w : World) (h : RdH w v l) : Cv 34 #[.int .i64 n, v] w (.eq (.bool (inR n 0 ((l.length : Int) - 1)))) := by
  unfold Cv
  have HL := Lib.hid h
  have Hl : Hid (l.length ≤ 9223372036854775807) := Lib.hid (by obtain ⟨_, _, _, h1, h2, _⟩ := h; unfold maxLen at h2; omega)
  clear h
  go_enter Tryd.func34, Tryd.ntmps34
  go_upto_region 1 with fail
  refine wp_region_steps0 NewT [SV.eq (.int .i64 (n)), svH (l), SV.eq (.int .i64 ((List.length (l) : Int))), SV.eq (.int .i64 ((List.length l : Int) - 1)), SV.eq (.bool (inR n 0 ((List.length l : Int) - 1))), SV.eq (.bool (inR n 0 ((List.length l : Int) - 1)))] [([(0, none)], none), ([(1, none)], none), ([(6, some 1)], none), ([(7, some 2)], none), ([(5, some 0), (8, some 3)], none), ([(9, some 4)], none)] 10 6 rfl rfl (by kernel_rfl) NewT.trans (NewT.refl _) (Nat.le_of_ble_eq_true rfl) ⟨?_, ?_, ?_, ?_, ?_, ?_, trivial⟩ ?_
  · exact fun a wx hT hF K hK => rely_wp rfl (opr_move (.inl rfl) (hK _ _ (NewT.refl _) hF.1))
  · intro a wx hT hF K hK
    obtain ⟨f1, _⟩ := hF
    have f1 : a.tmps.getD 1 undef = v := f1
    refine rely_wp rfl ?_
    exact opr_move (.inl rfl) (hK _ _ (NewT.refl _) (by rw [eval_tmp, f1]; exact hT.hs HL.out))
  · exact fun a wx hT hF K hK => rely_wp rfl (opr_len_h rfl hF.1 (hK _ _ (NewT.refl _) rfl))
  · exact fun a wx hT hF K hK => rely_wp rfl (opr_sub (r := (List.length l : Int) - 1) Tryd.underlying3 (by have := Hl.out; unfold wrap64; omega) rfl hF.1 rfl (hK _ _ (NewT.refl _) rfl))
  · exact fun a wx hT hF K hK => rely_wp rfl (opr_cv (kWithin_cv n 0 ((List.length l : Int) - 1) wx) rfl Tryd.func26 (by kernel_rfl) (by kernel_rfl) (evs3 hF.1 rfl hF.2.1) hK)
  · exact fun a wx hT hF K hK => rely_wp rfl (opr_move (.inr rfl) (hK _ _ (NewT.refl _) hF.1))
  · intro wx hT
    intro u h; obtain rfl := Eq.symm (h (by simp)); clear h
    intro _ _
    iterate 4 (intro u h; obtain rfl := Eq.symm (h (by simp)); clear h)
    refine relyEnd_nil rfl ?_
    refine wpList_end rfl ?_
    simp only [Act.put, List.setIfInBounds_toArray, List.set_cons_zero, List.set_cons_succ]
    go_simp
    go_wp2
    go_ret
    exact ⟨_, rfl, hT, rfl⟩
set_option maxHeartbeats 400000 in
theorem kBit_cv (b : Bool) (w : World) : Cv 31 #[.bool b] w (.eq (.int .i64 (bI b))) := by
  unfold Cv
  cases b
  all_goals
    go_enter Tryd.func31, Tryd.ntmps31
    go_wp2
    go_ret
    exact ⟨_, rfl, NewT.refl _, rfl⟩
set_option maxHeartbeats 1000000 in
theorem May_cv (v : Value) (ps ws : List Hs) (need : Int) (w : World) (hk : KeysV w v ps ws need) : Cv 12 #[v] w (.eq (.bool (mayB ps ws need))) := by
  unfold Cv
  obtain ⟨pv, wv, rfl, hpv, hwv⟩ := hk
  go_enter Tryd.func12, Tryd.ntmps12
  go_upto_region 1 with fail
  have rk := rowIs_box w 24 3 (keyF pv wv need)
  have hN := NewT.alloc w (.cells (rowA 3 (keyF pv wv need)) 24)
  change Code.wp _ _ _ _ (w.alloc (.cells (rowA 3 (keyF pv wv need)) 24))
  generalize w.alloc (.cells (rowA 3 (keyF pv wv need)) 24) = W0 at rk hN ⊢
  have RK := Lib.hid rk
  have HN := Lib.hid hN
  have HK : Hid (KeysV W0 (.agg (rowA 3 (keyF pv wv need))) ps ws need) := Lib.hid (hN.keysV ⟨pv, wv, rfl, hpv, hwv⟩)
  have HP := Lib.hid (hN.hs hpv)
  have HW := Lib.hid (hN.hs hwv)
  clear rk hpv hwv hN
  obtain ⟨q1_1, Q1_1⟩ : ∃ bq_, ((inR ((List.length (ps) : Int)) 1 4) && (inR ((List.length (ws) : Int)) 1 4)) = bq_ := ⟨_, rfl⟩
  obtain ⟨q2_1, Q2_1⟩ : ∃ bq_, (q1_1 && (inR need 1 ((List.length (ws) : Int)))) = bq_ := ⟨_, rfl⟩
  refine wp_region_steps0 NewT [SV.eq (.pointer (some ⟨w.heap.size, 0, none⟩)), SV.eq (pv), SV.eq (.int .i64 ((List.length (ps) : Int))), SV.eq (.bool (inR ((List.length (ps) : Int)) 1 4)), SV.eq (.bool (inR ((List.length (ps) : Int)) 1 4)), svIf (inR ((List.length (ps) : Int)) 1 4) (SV.eq (.pointer (some ⟨w.heap.size, 1, none⟩))), svIf (inR ((List.length (ps) : Int)) 1 4) (SV.eq (wv)), svIf (inR ((List.length (ps) : Int)) 1 4) (SV.eq (.int .i64 ((List.length (ws) : Int)))), svIf (inR ((List.length (ps) : Int)) 1 4) (SV.eq (.bool (inR ((List.length (ws) : Int)) 1 4))), SV.eq (.bool (q1_1)), SV.eq (.bool (q1_1)), svIf q1_1 (SV.eq (.pointer (some ⟨w.heap.size, 2, none⟩))), svIf q1_1 (SV.eq (.int .i64 (need))), svIf q1_1 (SV.eq (.pointer (some ⟨w.heap.size, 1, none⟩))), svIf q1_1 (SV.eq (wv)), svIf q1_1 (SV.eq (.int .i64 ((List.length (ws) : Int)))), svIf q1_1 (SV.eq (.bool (inR need 1 ((List.length (ws) : Int))))), SV.eq (.bool (q2_1)), SV.eq (.bool (q2_1))] [([(1, none)], none), ([(3, some 0)], none), ([(4, some 1)], none), ([(5, some 2)], none), ([(6, some 3)], none), ([(1, none), (7, some 4)], some (7, true)), ([(8, some 5), (7, some 4)], some (7, true)), ([(9, some 6), (7, some 4)], some (7, true)), ([(10, some 7), (7, some 4)], some (7, true)), ([(7, some 4), (11, some 8)], none), ([(12, some 9)], none), ([(1, none), (13, some 10)], some (13, true)), ([(14, some 11), (13, some 10)], some (13, true)), ([(1, none), (13, some 10)], some (13, true)), ([(16, some 13), (13, some 10)], some (13, true)), ([(17, some 14), (13, some 10)], some (13, true)), ([(15, some 12), (18, some 15), (13, some 10)], some (13, true)), ([(13, some 10), (19, some 16)], none), ([(20, some 17)], none)] 21 19 rfl rfl (by kernel_rfl) NewT.trans (NewT.refl _) (Nat.le_of_ble_eq_true rfl) ⟨?_, ?_, ?_, ?_, ?_, ?_, ?_, ?_, ?_, ?_, ?_, ?_, ?_, ?_, ?_, ?_, ?_, ?_, ?_, trivial⟩ ?_
  · exact fun a wx hT hF K hK => rely_wp rfl (opr_fldY0 rfl hF.1 (hK _ _ (NewT.refl _) rfl))
  · exact fun a wx hT hF K hK => rely_wp rfl (opr_ldHs (hT.row RK.out) (by decide) rfl rfl hF.1 (hK _ _ (NewT.refl _) rfl))
  · intro a wx hT hF K hK
    obtain ⟨f4, _⟩ := hF
    have f4 : a.tmps.getD 4 undef = pv := f4
    refine rely_wp rfl ?_
    exact opr_len_h rfl (by rw [eval_tmp, f4]; exact (hT.hs HP.out)) (hK _ _ (NewT.refl _) rfl)
  · exact fun a wx hT hF K hK => rely_wp rfl (opr_cv (kWithin_cv ((List.length (ps) : Int)) 1 4 wx) rfl Tryd.func26 (by kernel_rfl) (by kernel_rfl) (evs3 hF.1 rfl rfl) hK)
  · exact fun a wx hT hF K hK => rely_wp rfl (opr_move (.inl rfl) (hK _ _ (NewT.refl _) hF.1))
  · exact fun a wx hT hF K hK => rely_if (rely_gt hF.2.1) (NewT.refl _) hK fun hE hK => opr_fldY1 rfl hF.1 (hK _ _ (NewT.refl _) rfl)
  · exact fun a wx hT hF K hK => rely_if (rely_gt hF.2.1) (NewT.refl _) hK fun hE hK => opr_ldHs (hT.row RK.out) (by decide) rfl rfl (hF.1 hE) (hK _ _ (NewT.refl _) rfl)
  · intro a wx hT hF K hK
    obtain ⟨f9, f7, _⟩ := hF
    have f9 : (inR ((List.length (ps) : Int)) 1 4) = true → a.tmps.getD 9 undef = wv := f9
    have f7 : a.tmps.getD 7 undef = .bool (inR ((List.length (ps) : Int)) 1 4) := f7
    refine rely_if (rely_gt f7) (NewT.refl _) hK (fun hE hK => ?_)
    exact opr_len_h rfl (by rw [eval_tmp, (f9 hE)]; exact (hT.hs HW.out)) (hK _ _ (NewT.refl _) rfl)
  · exact fun a wx hT hF K hK => rely_if (rely_gt hF.2.1) (NewT.refl _) hK fun hE hK => opr_cv (kWithin_cv ((List.length (ws) : Int)) 1 4 wx) rfl Tryd.func26 (by kernel_rfl) (by kernel_rfl) (evs3 (hF.1 hE) rfl rfl) hK
  · exact fun a wx hT hF K hK => rely_wp rfl (opr_pick_b rfl hF.1 (fun hb => hK _ _ (NewT.refl _) (pn_and1 Q1_1 (hF.2.1 hb) hb)) (fun hb => hK _ _ (NewT.refl _) (pn_and0 Q1_1 hb)))
  · exact fun a wx hT hF K hK => rely_wp rfl (opr_move (.inl rfl) (hK _ _ (NewT.refl _) hF.1))
  · exact fun a wx hT hF K hK => rely_if (rely_gt hF.2.1) (NewT.refl _) hK fun hE hK => opr_fldY2 rfl hF.1 (hK _ _ (NewT.refl _) rfl)
  · exact fun a wx hT hF K hK => rely_if (rely_gt hF.2.1) (NewT.refl _) hK fun hE hK => opr_ldI (hT.row RK.out) (by decide) rfl rfl (hF.1 hE) (hK _ _ (NewT.refl _) rfl)
  · exact fun a wx hT hF K hK => rely_if (rely_gt hF.2.1) (NewT.refl _) hK fun hE hK => opr_fldY1 rfl hF.1 (hK _ _ (NewT.refl _) rfl)
  · exact fun a wx hT hF K hK => rely_if (rely_gt hF.2.1) (NewT.refl _) hK fun hE hK => opr_ldHs (hT.row RK.out) (by decide) rfl rfl (hF.1 hE) (hK _ _ (NewT.refl _) rfl)
  · intro a wx hT hF K hK
    obtain ⟨f17, f13, _⟩ := hF
    have f17 : q1_1 = true → a.tmps.getD 17 undef = wv := f17
    have f13 : a.tmps.getD 13 undef = .bool (q1_1) := f13
    refine rely_if (rely_gt f13) (NewT.refl _) hK (fun hE hK => ?_)
    exact opr_len_h rfl (by rw [eval_tmp, (f17 hE)]; exact (hT.hs HW.out)) (hK _ _ (NewT.refl _) rfl)
  · exact fun a wx hT hF K hK => rely_if (rely_gt hF.2.2.1) (NewT.refl _) hK fun hE hK => opr_cv (kWithin_cv need 1 ((List.length (ws) : Int)) wx) rfl Tryd.func26 (by kernel_rfl) (by kernel_rfl) (evs3 (hF.1 hE) rfl (hF.2.1 hE)) hK
  · exact fun a wx hT hF K hK => rely_wp rfl (opr_pick_b rfl hF.1 (fun hb => hK _ _ (NewT.refl _) (pn_and1 Q2_1 (hF.2.1 hb) hb)) (fun hb => hK _ _ (NewT.refl _) (pn_and0 Q2_1 hb)))
  · exact fun a wx hT hF K hK => rely_wp rfl (opr_move (.inr rfl) (hK _ _ (NewT.refl _) hF.1))
  · intro wx hT
    iterate 5 (intro u h; obtain rfl := Eq.symm (h (by simp)); clear h)
    iterate 4 (intro _ _)
    iterate 2 (intro u h; obtain rfl := Eq.symm (h (by simp)); clear h)
    iterate 6 (intro _ _)
    iterate 2 (intro u h; obtain rfl := Eq.symm (h (by simp)); clear h)
    subst Q2_1 Q1_1
    refine relyEnd_nil rfl ?_
    refine wpList_end rfl ?_
    simp only [Act.put, List.setIfInBounds_toArray, List.set_cons_zero, List.set_cons_succ]
    go_simp
    go_wp2
    go_ret
    exact ⟨_, rfl, NewT.trans _ _ _ HN.out hT, rfl⟩
set_option maxHeartbeats 1000000 in
theorem hasKey_cv (v : Value) (ps ws : List Hs) (need part epoch : Int) (w : World) (hk : KeysV w v ps ws need) : Cv 27 #[v, .int .i64 part, .int .i64 epoch] w (.eq (.bool (hasB ps ws need part epoch))) := by
  unfold Cv
  obtain ⟨pv, wv, rfl, hpv, hwv⟩ := hk
  go_enter Tryd.func27, Tryd.ntmps27
  go_upto_region 1 with fail
  have rk := rowIs_box w 24 3 (keyF pv wv need)
  have hN := NewT.alloc w (.cells (rowA 3 (keyF pv wv need)) 24)
  change Code.wp _ _ _ _ (w.alloc (.cells (rowA 3 (keyF pv wv need)) 24))
  generalize w.alloc (.cells (rowA 3 (keyF pv wv need)) 24) = W0 at rk hN ⊢
  have RK := Lib.hid rk
  have HN := Lib.hid hN
  have HK : Hid (KeysV W0 (.agg (rowA 3 (keyF pv wv need))) ps ws need) := Lib.hid (hN.keysV ⟨pv, wv, rfl, hpv, hwv⟩)
  have HP := Lib.hid (hN.hs hpv)
  have HW := Lib.hid (hN.hs hwv)
  clear rk hpv hwv hN
  obtain ⟨q1_1, Q1_1⟩ : ∃ bq_, ((mayB ps ws need) && (inR part 0 ((List.length ps : Int) - 1))) = bq_ := ⟨_, rfl⟩
  refine wp_region_steps0 NewT [SV.eq (.agg (rowA 3 (keyF pv wv need))), SV.eq (.bool (mayB ps ws need)), SV.eq (.bool (mayB ps ws need)), svIf (mayB ps ws need) (SV.eq (.int .i64 (part))), svIf (mayB ps ws need) (SV.eq (.pointer (some ⟨w.heap.size, 0, none⟩))), svIf (mayB ps ws need) (SV.eq (pv)), svIf (mayB ps ws need) (SV.eq (.bool (inR part 0 ((List.length ps : Int) - 1)))), SV.eq (.bool (q1_1)), SV.eq (.bool (q1_1)), svIf q1_1 (SV.eq (.int .i64 (epoch))), svIf q1_1 (SV.eq (.bool (inR epoch 0 400))), SV.eq (.bool (q1_1 && (inR epoch 0 400))), SV.eq (.bool (q1_1 && (inR epoch 0 400)))] [([(3, none)], none), ([(7, some 0)], none), ([(8, some 1)], none), ([(1, none), (9, some 2)], some (9, true)), ([(3, none), (9, some 2)], some (9, true)), ([(11, some 4), (9, some 2)], some (9, true)), ([(10, some 3), (12, some 5), (9, some 2)], some (9, true)), ([(9, some 2), (13, some 6)], none), ([(14, some 7)], none), ([(2, none), (15, some 8)], some (15, true)), ([(16, some 9), (15, some 8)], some (15, true)), ([(15, some 8), (17, some 10)], none), ([(18, some 11)], none)] 19 13 rfl rfl (by kernel_rfl) NewT.trans (NewT.refl _) (Nat.le_of_ble_eq_true rfl) ⟨?_, ?_, ?_, ?_, ?_, ?_, ?_, ?_, ?_, ?_, ?_, ?_, ?_, trivial⟩ ?_
  · exact fun a wx hT hF K hK => rely_wp rfl (opr_ldY (hT.row RK.out) rfl hF.1 (hK _ _ (NewT.refl _) rfl))
  · exact fun a wx hT hF K hK => rely_wp rfl (opr_cv (May_cv _ ps ws need wx (hT.keysV HK.out)) rfl Tryd.func12 (by kernel_rfl) (by kernel_rfl) (evs1 hF.1) hK)
  · exact fun a wx hT hF K hK => rely_wp rfl (opr_move (.inl rfl) (hK _ _ (NewT.refl _) hF.1))
  · exact fun a wx hT hF K hK => rely_if (rely_gt hF.2.1) (NewT.refl _) hK fun hE hK => opr_move (.inl rfl) (hK _ _ (NewT.refl _) hF.1)
  · exact fun a wx hT hF K hK => rely_if (rely_gt hF.2.1) (NewT.refl _) hK fun hE hK => opr_fldY0 rfl hF.1 (hK _ _ (NewT.refl _) rfl)
  · exact fun a wx hT hF K hK => rely_if (rely_gt hF.2.1) (NewT.refl _) hK fun hE hK => opr_ldHs (hT.row RK.out) (by decide) rfl rfl (hF.1 hE) (hK _ _ (NewT.refl _) rfl)
  · exact fun a wx hT hF K hK => rely_if (rely_gt hF.2.2.1) (NewT.refl _) hK fun hE hK => opr_cv (kPlace_cv part _ ps wx (hT.hs HP.out)) rfl Tryd.func34 (by kernel_rfl) (by kernel_rfl) (evs2 (hF.1 hE) (hF.2.1 hE)) hK
  · exact fun a wx hT hF K hK => rely_wp rfl (opr_pick_b rfl hF.1 (fun hb => hK _ _ (NewT.refl _) (pn_and1 Q1_1 (hF.2.1 hb) hb)) (fun hb => hK _ _ (NewT.refl _) (pn_and0 Q1_1 hb)))
  · exact fun a wx hT hF K hK => rely_wp rfl (opr_move (.inl rfl) (hK _ _ (NewT.refl _) hF.1))
  · exact fun a wx hT hF K hK => rely_if (rely_gt hF.2.1) (NewT.refl _) hK fun hE hK => opr_move (.inl rfl) (hK _ _ (NewT.refl _) hF.1)
  · exact fun a wx hT hF K hK => rely_if (rely_gt hF.2.1) (NewT.refl _) hK fun hE hK => opr_cv (kWithin_cv epoch 0 400 wx) rfl Tryd.func26 (by kernel_rfl) (by kernel_rfl) (evs3 (hF.1 hE) rfl rfl) hK
  · exact fun a wx hT hF K hK => rely_wp rfl (opr_pick_b rfl hF.1 (fun hb => hK _ _ (NewT.refl _) (pk_and1 (hF.2.1 hb) hb)) (fun hb => hK _ _ (NewT.refl _) (pk_and0 hb)))
  · exact fun a wx hT hF K hK => rely_wp rfl (opr_move (.inr rfl) (hK _ _ (NewT.refl _) hF.1))
  · intro wx hT
    iterate 3 (intro u h; obtain rfl := Eq.symm (h (by simp)); clear h)
    iterate 4 (intro _ _)
    iterate 2 (intro u h; obtain rfl := Eq.symm (h (by simp)); clear h)
    iterate 2 (intro _ _)
    iterate 2 (intro u h; obtain rfl := Eq.symm (h (by simp)); clear h)
    subst Q1_1
    refine relyEnd_nil rfl ?_
    refine wpList_end rfl ?_
    simp only [Act.put, List.setIfInBounds_toArray, List.set_cons_zero, List.set_cons_succ]
    go_simp
    go_wp2
    go_ret
    exact ⟨_, rfl, NewT.trans _ _ _ HN.out hT, rfl⟩
end Go.Proofs.YtcfogkimjbgjgaaDoor
/- Package keys: participants' keys. -/
namespace Go.Proofs.YtcfogkimjbgjgaaDoor
open Go Go.RowKit
set_option maxRecDepth 8000
set_option linter.all false
set_option maxHeartbeats 1000000 in
theorem Part_cv {kf : Hs → List Int → Hs} {tg : Hs → Hs → Hs} {pf : Int → Hs → Hs} (hX : KeyH kf tg pf) (v : Value) (ps ws : List Hs) (need part epoch : Int) (w : World) (hT : Tables w) (hk : KeysV w v ps ws need) : Cv 14 #[v, .int .i64 part, .int .i64 epoch] w (.eq (.agg (rowA 32 (bF (partH kf ps ws need part epoch))))) := by
  unfold Cv
  obtain ⟨pv, wv, rfl, hpv, hwv⟩ := hk
  have HT := Lib.hid hT
  clear hT
  go_enter Tryd.func14, Tryd.ntmps14
  go_upto_region 1 with fail
  have rk := (rowIs_box w 24 3 (keyF pv wv need)).alloc (.cells (rowA 32 (bF fun _ => 0)) 26)
  have r0 := rowIs_box (w.alloc (.cells (rowA 3 (keyF pv wv need)) 24)) 26 32 (bF fun _ => 0)
  have hN : NewT w ((w.alloc (.cells (rowA 3 (keyF pv wv need)) 24)).alloc (.cells (rowA 32 (bF fun _ => 0)) 26)) := NewT.trans _ _ _ (NewT.alloc _ _) (NewT.alloc _ _)
  rw [World.size_alloc] at r0
  change Code.wp _ _ _ _ ((w.alloc (.cells (rowA 3 (keyF pv wv need)) 24)).alloc (.cells (rowA 32 (bF fun _ => 0)) 26))
  generalize (w.alloc (.cells (rowA 3 (keyF pv wv need)) 24)).alloc (.cells (rowA 32 (bF fun _ => 0)) 26) = W0 at rk r0 hN ⊢
  have RK := Lib.hid rk
  have R0 := Lib.hid r0
  have HN := Lib.hid hN
  replace HT := Lib.hid (hN.tables HT.out)
  have HK : Hid (KeysV W0 (.agg (rowA 3 (keyF pv wv need))) ps ws need) := Lib.hid (hN.keysV ⟨pv, wv, rfl, hpv, hwv⟩)
  have HP := Lib.hid (hN.hs hpv)
  have HW := Lib.hid (hN.hs hwv)
  clear rk r0 hpv hwv hN
  refine wp_region_steps0 NewT [SV.eq (.agg (rowA 3 (keyF pv wv need))), SV.eq (.int .i64 (part)), SV.eq (.int .i64 (epoch)), SV.eq (.bool (hasB ps ws need part epoch)), SV.eq (.bool (!(hasB ps ws need part epoch)))] [([(3, none)], none), ([(1, none)], none), ([(2, none)], none), ([(7, some 0), (8, some 1), (9, some 2)], none), ([(10, some 3)], none)] 21 5 rfl rfl (by kernel_rfl) NewT.trans (NewT.refl _) (Nat.le_of_ble_eq_true rfl) ⟨?_, ?_, ?_, ?_, ?_, trivial⟩ ?_
  · exact fun a wx hT hF K hK => rely_wp rfl (opr_ldY (hT.row RK.out) rfl hF.1 (hK _ _ (NewT.refl _) rfl))
  · exact fun a wx hT hF K hK => rely_wp rfl (opr_move (.inl rfl) (hK _ _ (NewT.refl _) hF.1))
  · exact fun a wx hT hF K hK => rely_wp rfl (opr_move (.inl rfl) (hK _ _ (NewT.refl _) hF.1))
  · exact fun a wx hT hF K hK => rely_wp rfl (opr_cv (hasKey_cv _ ps ws need part epoch wx (hT.keysV HK.out)) rfl Tryd.func27 (by kernel_rfl) (by kernel_rfl) (evs3 hF.1 hF.2.1 hF.2.2.1) hK)
  · exact fun a wx hT hF K hK => rely_wp rfl (opr_not rfl hF.1 (hK _ _ (NewT.refl _) rfl))
  · intro w1 k1
    iterate 5 (intro u h; obtain rfl := Eq.symm (h (by simp)); clear h)
    refine relyEnd_nil rfl ?_
    refine wpList_end rfl ?_
    simp only [Act.put, List.setIfInBounds_toArray, List.set_cons_zero, List.set_cons_succ]
    go_simp
    replace RK := Lib.hid (k1.row RK.out)
    replace R0 := Lib.hid (k1.row R0.out)
    replace HK := Lib.hid (k1.keysV HK.out)
    replace HP := Lib.hid (k1.hs HP.out)
    replace HW := Lib.hid (k1.hs HW.out)
    replace HT := Lib.hid (k1.tables HT.out)
    replace HN := Lib.hid (NewT.trans _ _ _ HN.out k1)
    clear k1
    cases hb : hasB ps ws need part epoch
    · have HE : Hid (partH kf ps ws need part epoch = z32) := Lib.hid (by unfold partH; rw [hb]; rfl)
      clear hb
      go_upto_region 2 with fail
      refine wp_region_steps0 NewT [SV.eq (.agg (rowA 32 (bF (z32))))] [([], none)] 21 1 rfl rfl (by kernel_rfl) NewT.trans (NewT.refl _) (Nat.le_of_ble_eq_true rfl) ⟨?_, trivial⟩ ?_
      · exact fun a wx hT hF K hK => rely_wp rfl (opr_build (pv := #[]) rfl (by simp) (build_z32 wx) (hK _ _ (NewT.refl _) rfl))
      · intro wx hT
        intro u h; obtain rfl := Eq.symm (h (by simp)); clear h
        refine relyEnd_nil rfl ?_
        simp only [Act.put, List.setIfInBounds_toArray, List.set_cons_zero, List.set_cons_succ]
        refine wpList_plain rfl (fun K hK => ?_)
        refine opr_store_new (B := w.heap.size) (W := w) info31 rfl rfl rfl (hT.row R0.out) (NewT.trans _ _ _ HN.out hT) (Nat.le_succ _) ?_
        intro w9 hB9 r9
        refine hK _ _ ?_
        refine wpList_end rfl ?_
        simp only [Act.put, List.setIfInBounds_toArray, List.set_cons_zero, List.set_cons_succ]
        go_simp
        go_wp2
        exact bodyPost_ret (results_row rfl _ rfl r9 Tryd.underlying26 info31) rfl ⟨_, rfl, hB9, by rw [HE.out]; rfl⟩
    · obtain ⟨i, rfl, _, hd⟩ := hasB_at hb
      obtain ⟨d, hdd⟩ := hid_ex (ps.getD ((i : Int)).toNat z32)
      have HD : Hid (ps[i]? = some d) := Lib.hid (by rw [hd, hdd.out])
      have HE : Hid (partH kf ps ws need (i : Int) epoch = kf d [1, epoch]) := Lib.hid (by unfold partH; rw [hb, if_pos rfl, hdd.out])
      clear hb hd hdd
      go_upto_region 3 with fail
      refine wp_region_steps0 NewT [SV.eq (.pointer (some ⟨w.heap.size, 0, none⟩)), SV.eq (pv), SV.eq (.int .i64 ((i : Int))), svP (d), SV.eq (.agg (rowA 32 (bF (d)))), SV.eq (.int .i64 (epoch)), svInts [1, epoch], SV.eq (.agg (rowA 32 (bF (kf (d) [1, epoch]))))] [([(3, none)], none), ([(13, some 0)], none), ([(1, none)], none), ([(14, some 1), (15, some 2)], none), ([(16, some 3)], none), ([(2, none)], none), ([(18, some 5)], none), ([(17, some 4), (19, some 6)], none)] 21 8 rfl rfl (by kernel_rfl) NewT.trans (NewT.refl _) (Nat.le_of_ble_eq_true rfl) ⟨?_, ?_, ?_, ?_, ?_, ?_, ?_, ?_, trivial⟩ ?_
      · exact fun a wx hT hF K hK => rely_wp rfl (opr_fldY0 rfl hF.1 (hK _ _ (NewT.refl _) rfl))
      · exact fun a wx hT hF K hK => rely_wp rfl (opr_ldHs (hT.row RK.out) (by decide) rfl rfl hF.1 (hK _ _ (NewT.refl _) rfl))
      · exact fun a wx hT hF K hK => rely_wp rfl (opr_move (.inl rfl) (hK _ _ (NewT.refl _) hF.1))
      · intro a wx hT hF K hK
        obtain ⟨f14, f15, _⟩ := hF
        have f14 : a.tmps.getD 14 undef = pv := f14
        have f15 : a.tmps.getD 15 undef = .int .i64 ((i : Int)) := f15
        refine rely_wp rfl ?_
        exact opr_idxH (i := i) (d := d) (HD.out) (rfl) rfl (by rw [eval_tmp, f14]; exact (hT.hs HP.out)) f15 (fun v hv => hK v _ (NewT.refl _) hv)
      · exact fun a wx hT hF K hK => rely_wp rfl (opr_ldP rfl hF.1 (hK _ _ (NewT.refl _) rfl))
      · exact fun a wx hT hF K hK => rely_wp rfl (opr_move (.inl rfl) (hK _ _ (NewT.refl _) hF.1))
      · exact fun a wx hT hF K hK => rely_wp rfl (opr_bsI2 rfl rfl hF.1 hK)
      · exact fun a wx hT hF K hK => rely_wp rfl (opr_cv (Key_cv (d) _ [1, epoch] _ wx (hT.tables HT.out) hF.2.1 (by simp) (hX.key _ _)) rfl Tryd.func28 (by kernel_rfl) (by kernel_rfl) (evs2 hF.1 rfl) hK)
      · intro wx hT
        iterate 3 (intro u h; obtain rfl := Eq.symm (h (by simp)); clear h)
        intro _ _
        iterate 2 (intro u h; obtain rfl := Eq.symm (h (by simp)); clear h)
        intro _ _
        intro u h; obtain rfl := Eq.symm (h (by simp)); clear h
        refine relyEnd_nil rfl ?_
        simp only [Act.put, List.setIfInBounds_toArray, List.set_cons_zero, List.set_cons_succ]
        refine wpList_plain rfl (fun K hK => ?_)
        refine opr_store_new (B := w.heap.size) (W := w) info31 rfl rfl rfl (hT.row R0.out) (NewT.trans _ _ _ HN.out hT) (Nat.le_succ _) ?_
        intro w9 hB9 r9
        refine hK _ _ ?_
        refine wpList_end rfl ?_
        simp only [Act.put, List.setIfInBounds_toArray, List.set_cons_zero, List.set_cons_succ]
        go_simp
        go_wp2
        exact bodyPost_ret (results_row rfl _ rfl r9 Tryd.underlying26 info31) rfl ⟨_, rfl, hB9, by rw [HE.out]; rfl⟩
end Go.Proofs.YtcfogkimjbgjgaaDoor
