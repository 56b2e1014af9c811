/- Drawn regions that make one variable and store into it, in whatever order the rest comes: 'x, y := f(..)'. -/
import Derived.Test.YtchpmdcacpjojaaDoorMd
import Derived.Test.YtchpmdcacpjojaaDoorMa
import Derived.Test.YtchpmdcacpjojaaDoorMb
import Derived.Test.YtchpmdcacpjojaaDoorMc
import Derived.Deep.Upon
set_option linter.all false
namespace Go.Proofs.YtchpmdcacpjojaaDoor
open Go Go.RowKit
set_option maxRecDepth 8000
set_option linter.all false
/-- Memory that was there in W stays. -/
def BelT (W : World) (w w' : World) : Prop := Below W.heap.size w w'
theorem BelT.trans (W : World) (a b c : World) (h : BelT W a b) (k : BelT W b c) : BelT W a c := Below.trans h k
theorem BelT.drew (W w : World) : BelT W w w.drew := (Below.refl _ w).drew
theorem BelT.new {W w w' : World} (hW : NewT W w) (hN : NewT w w') : BelT W w w' := hN.out.mono hW.out.size
theorem BelT.rt {W w w' : World} {g : Nat} (hg : W.heap.size ≤ g) (h : RT g w w') : BelT W w w' := h.below.mono hg
/-- It is a variable's address. -/
def svPtV {T : World → World → Prop} : SV T := ⟨fun v _ => ∃ g, v = .pointer (some ⟨g, 0, none⟩), fun _ _ _ h _ => h⟩
/-- The variable of slot p: not there, zero, stored. -/
def JV (p : Tmp) (W : World) (t n : Nat) (F0 : Nat → Value) (G : World → (Nat → Value) → Prop) (k : Nat) (a : Act) (w : World) : Prop :=
  k = 0 ∨ ∀ g, a.tmps.getD p undef = .pointer (some ⟨g, 0, none⟩) → ∃ F, W.heap.size ≤ g ∧ w.rowIs g t n F ∧ (k = 1 ∧ F = F0 ∨ k ≠ 1 ∧ G w F)
theorem JV.keep {p : Tmp} {W : World} {t n : Nat} {F0 : Nat → Value} {G : World → (Nat → Value) → Prop} {k : Nat} {a : Act} {w w' : World} {d : Option Tmp} {v : Value} (h : JV p W t n F0 G k a w) (hd : d ≠ some p) (hN : NewT w w') (hG : ∀ F, G w F → G w' F) : JV p W t n F0 G k (a.put d v) w' := by
  rcases h with h | h
  · exact .inl h
  · refine .inr fun g hg => ?_
    have hg' : a.tmps.getD p undef = .pointer (some ⟨g, 0, none⟩) := by
      cases d with
      | none => exact hg
      | some q =>
        have hne : q ≠ p := fun e => hd (by rw [e])
        rw [← hg]
        simp [Act.put, Array.getElem?_setIfInBounds_ne hne]
    obtain ⟨F, h1, h2, h3⟩ := h g hg'
    refine ⟨F, h1, hN.row h2, ?_⟩
    rcases h3 with h3 | ⟨h3, h4⟩
    · exact .inl h3
    · exact .inr ⟨h3, hG F h4⟩
theorem JV.make {p : Tmp} {W : World} {t n : Nat} {F0 : Nat → Value} {G : World → (Nat → Value) → Prop} {a : Act} {w : World} (hW : NewT W w) : JV p W t n F0 G 1 (a.put (some p) (.pointer (some ⟨w.heap.size, 0, none⟩))) (w.alloc (.cells (rowA n F0) t)) := by
  refine .inr fun g hg => ?_
  have hs : g = w.heap.size := by
    by_cases hp : p < a.tmps.size
    · simp [Act.put, hp] at hg; exact hg.symm
    · simp [Act.put, hp] at hg; cases hg
  subst hs
  exact ⟨F0, hW.out.size, rowIs_box w t n F0, .inl ⟨rfl, rfl⟩⟩
theorem JV.at1 {p g : Nat} {W : World} {t n : Nat} {F0 : Nat → Value} {G : World → (Nat → Value) → Prop} {a : Act} {w : World} (h : JV p W t n F0 G 1 a w) (hg : a.tmps.getD p undef = .pointer (some ⟨g, 0, none⟩)) : W.heap.size ≤ g ∧ w.rowIs g t n F0 := by
  rcases h with h | h
  · cases h
  · obtain ⟨F, h1, h2, h3⟩ := h g hg
    rcases h3 with ⟨_, rfl⟩ | ⟨h3, _⟩
    · exact ⟨h1, h2⟩
    · exact absurd rfl h3
theorem JV.at2 {p g : Nat} {W : World} {t n : Nat} {F0 : Nat → Value} {G : World → (Nat → Value) → Prop} {a : Act} {w : World} (h : JV p W t n F0 G 2 a w) (hg : a.tmps.getD p undef = .pointer (some ⟨g, 0, none⟩)) : ∃ F, W.heap.size ≤ g ∧ w.rowIs g t n F ∧ G w F := by
  rcases h with h | h
  · cases h
  · obtain ⟨F, h1, h2, h3⟩ := h g hg
    rcases h3 with ⟨h3, _⟩ | ⟨_, h3⟩
    · cases h3
    · exact ⟨F, h1, h2, h3⟩
theorem JV.mk2 {p g : Nat} {W : World} {t n : Nat} {F0 F : Nat → Value} {G : World → (Nat → Value) → Prop} {a : Act} {w : World} {v : Value} (h1 : a.tmps.getD p undef = .pointer (some ⟨g, 0, none⟩)) (h2 : W.heap.size ≤ g) (h3 : w.rowIs g t n F) (h4 : G w F) : JV p W t n F0 G 2 (a.put none v) w := by
  refine .inr fun g' hg' => ?_
  have e : a.tmps.getD p undef = .pointer (some ⟨g', 0, none⟩) := hg'
  rw [h1] at e
  cases e
  exact ⟨F, h2, h3, .inr ⟨by omega, h4⟩⟩
theorem opr_allocV {P : Program} {a : Act} {w : World} {o : Oper} {K : Act → World → Prop} {Q : Exit → Act → World → Prop} {t n : Nat} {F0 : Nat → Value} (ho : o.op = .alloc t) (hal : ∀ w, (Instr.alloc t true (.tuple #[])).run P w = .ok (.pointer (some ⟨w.heap.size, 0, none⟩)) (w.alloc (.cells (rowA n F0) t))) (h : K (a.put o.dst (.pointer (some ⟨w.heap.size, 0, none⟩))) (w.alloc (.cells (rowA n F0) t))) : o.wp P a w K Q := by
  obtain ⟨dst, op, type, pos, after, guard⟩ := o
  simp only at ho
  subst ho
  exact opr_val (s := Instr.alloc t true (.tuple #[])) rfl (hal w) h
end Go.Proofs.YtchpmdcacpjojaaDoor
/- Package part: Take. -/
namespace Go.Proofs.YtchpmdcacpjojaaDoor
open Go Go.RowKit
set_option maxRecDepth 8000
set_option linter.all false
def svLk {T : World → World → Prop} (v q : Bool) : SV T := ⟨fun u _ => ∃ nn, u = .tuple #[.agg (rowA 2 (tdF v nn)), .bool q], fun _ _ _ h _ => h⟩
def svTd {T : World → World → Prop} (v : Bool) : SV T := ⟨fun u _ => ∃ nn, u = .agg (rowA 2 (tdF v nn)), fun _ _ _ h _ => h⟩
set_option maxHeartbeats 4000000 in
theorem Take_b {kf : Hs → List Int → Hs} {tg : Hs → Hs → Hs} {pf : Int → Hs → Hs} (hX : KeyH kf tg pf) {lo hi g : Nat} {n e : Int} {ps ws : List Hs} {need : Int} {L : List En} (c : Cl) (r : Bool) (w : World) (hT : Tables w) (hlo : 2 ≤ lo) (h : PartAt w lo hi g n e ps ws need L) :
    Calls Tryd.prog 13 #[.pointer (some ⟨g, 0, none⟩), .agg (rowA 41 (clF c)), .bool r] w fun ex w' => ex = .returned (.tuple #[.agg (rowA 41 (clF (takeC kf ps ws need n e L c r))), .bool (itsB n c)]) ∧ PT lo hi w w' ∧ PartAt w' lo hi g n e ps ws need (takeL n L c r) ∧ ∃ m, MapAt w m L ∧ ∀ k, k < w.heap.size → k ≠ m → w'.heap[k]? = w.heap[k]? := by
  have HPA := Lib.hid h
  obtain ⟨m, pv, wv, hr, hmp, hp, hw, hl⟩ := h
  have HLO : Hid (2 ≤ lo ∧ lo ≤ w.heap.size) := Lib.hid (by omega)
  have HTT := Lib.hid hT
  have HR := Lib.hid hr
  have HMP := Lib.hid hmp
  have HPI := Lib.hid hp
  have HWI := Lib.hid hw
  have HML := Lib.hid hl
  clear hT hr hmp hp hw hl hlo
  have hmf : ∀ (fn : Fn) (first cap : Array Value) (w : World), (Instr.makeFunc fn first cap).run Tryd.prog w = .ok (.func fn first cap) w := fun _ _ _ _ => rfl
  go_enter_defers Tryd.func13, Tryd.ntmps13
  go_upto_region 1 with fail
  have r_gp := ((rowIs_box w 28 1 (fun _ => .pointer (some ⟨g, 0, none⟩))).alloc (.cells (rowA 41 (clF c)) 34)).alloc (.cells (rowA 41 (clF zC)) 34)
  have r_gc := (rowIs_box (w.alloc (.cells (rowA 1 (fun _ => .pointer (some ⟨g, 0, none⟩))) 28)) 34 41 (clF c)).alloc (.cells (rowA 41 (clF zC)) 34)
  rw [World.size_alloc] at r_gc
  have r_ga := rowIs_box ((w.alloc (.cells (rowA 1 (fun _ => .pointer (some ⟨g, 0, none⟩))) 28)).alloc (.cells (rowA 41 (clF c)) 34)) 34 41 (clF zC)
  rw [World.size_alloc, World.size_alloc] at r_ga
  have hN : NewT w (((w.alloc (.cells (rowA 1 (fun _ => .pointer (some ⟨g, 0, none⟩))) 28)).alloc (.cells (rowA 41 (clF c)) 34)).alloc (.cells (rowA 41 (clF zC)) 34)) := (NewT.trans _ _ _ ((NewT.trans _ _ _ (NewT.alloc _ _) (NewT.alloc _ _))) (NewT.alloc _ _))
  change Code.wp _ _ _ _ (((w.alloc (.cells (rowA 1 (fun _ => .pointer (some ⟨g, 0, none⟩))) 28)).alloc (.cells (rowA 41 (clF c)) 34)).alloc (.cells (rowA 41 (clF zC)) 34))
  generalize (((w.alloc (.cells (rowA 1 (fun _ => .pointer (some ⟨g, 0, none⟩))) 28)).alloc (.cells (rowA 41 (clF c)) 34)).alloc (.cells (rowA 41 (clF zC)) 34)) = W0 at r_gp r_gc r_ga hN ⊢
  obtain ⟨gp, h_gp⟩ : ∃ g_, w.heap.size = g_ := ⟨_, rfl⟩
  obtain ⟨gc, h_gc⟩ : ∃ g_, w.heap.size + 1 = g_ := ⟨_, rfl⟩
  obtain ⟨ga, h_ga⟩ : ∃ g_, w.heap.size + 1 + 1 = g_ := ⟨_, rfl⟩
  have HG : Hid (w.heap.size ≤ gp ∧ gp < gc ∧ gc < ga) := Lib.hid (by omega)
  rw [h_gp] at r_gp
  rw [h_gc] at r_gc
  rw [h_ga] at r_ga
  try rw [h_ga]
  try rw [h_gc]
  simp only [h_gp]
  have Rgp := Lib.hid r_gp
  have Rgc := Lib.hid r_gc
  have Rga := Lib.hid r_ga
  have HM := Lib.hid hN
  clear r_gp r_gc r_ga hN h_gp h_gc h_ga
  have Rg := Lib.hid (HM.out.row HR.out)
  go_upto_region 1 with fail
  refine wp_region_steps0 NewT [SV.eq (.pointer (some ⟨g, 0, none⟩)), SV.eq (.bool false), SV.eq (.bool false), SV.eq (.pointer (some ⟨g, 0, none⟩)), SV.eq (.agg (rowA 41 (clF c))), SV.eq (.bool (itsB n c)), SV.eq (.bool (!(itsB n c))), SV.eq (.bool (!(itsB n c)))] [([(3, none)], none), ([(13, some 0)], none), ([(14, some 1)], none), ([(3, none), (15, some 2)], some (15, false)), ([(4, none), (15, some 2)], some (15, false)), ([(16, some 3), (17, some 4), (15, some 2)], some (15, false)), ([(18, some 5), (15, some 2)], some (15, false)), ([(15, some 2), (19, some 6)], none)] 88 8 rfl rfl (by kernel_rfl) NewT.trans (NewT.refl _) (Nat.le_of_ble_eq_true rfl) ⟨?_, ?_, ?_, ?_, ?_, ?_, ?_, ?_, trivial⟩ ?_
  · exact fun a wx hT hF K hK => rely_wp rfl (opr_ldPp (hT.row Rgp.out) (by decide) rfl rfl hF.1 (hK _ _ (NewT.refl _) rfl))
  · exact fun a wx hT hF K hK => rely_wp rfl (opr_eqPn rfl hF.1 (hK _ _ (NewT.refl _) rfl))
  · exact fun a wx hT hF K hK => rely_wp rfl (opr_move (.inl rfl) (hK _ _ (NewT.refl _) hF.1))
  · exact fun a wx hT hF K hK => rely_wp (rely_guard hF.2.1) (opr_ldPp (hT.row Rgp.out) (by decide) rfl rfl hF.1 (hK _ _ (NewT.refl _) rfl))
  · exact fun a wx hT hF K hK => rely_wp (rely_guard hF.2.1) (opr_ldCl (hT.row Rgc.out) rfl hF.1 (hK _ _ (NewT.refl _) rfl))
  · exact fun a wx hT hF K hK => rely_wp (rely_guard hF.2.2.1) (opr_cv (takes_cv c wx (hT.row Rg.out)) rfl Tryd.func28 (by kernel_rfl) (by kernel_rfl) (evs2 hF.1 hF.2.1) hK)
  · exact fun a wx hT hF K hK => rely_wp (rely_guard hF.2.1) (opr_not rfl hF.1 (hK _ _ (NewT.refl _) rfl))
  · exact fun a wx hT hF K hK => rely_wp rfl (opr_pick_false rfl hF.1 (hK _ _ (NewT.refl _) hF.2.1))
  · intro w1 k1
    iterate 8 (intro u h; obtain rfl := Eq.symm (h (by simp)); clear h)
    refine relyEnd_nil rfl ?_
    refine wpList_end rfl ?_
    simp only [Act.put, List.setIfInBounds_toArray, List.set_cons_zero, List.set_cons_succ]
    go_simp
    replace Rgp := Lib.hid (k1.row Rgp.out)
    replace Rgc := Lib.hid (k1.row Rgc.out)
    replace Rga := Lib.hid (k1.row Rga.out)
    replace Rg := Lib.hid (k1.row Rg.out)
    replace HM := Lib.hid (NewT.trans _ _ _ HM.out k1)
    clear k1
    cases hb : itsB n c
    · have HE : Hid (itsB n c = false) := Lib.hid hb
      clear hb
      go_upto_region 2 with fail
      refine wp_region_steps0 NewT [SV.eq ((.agg (rowA 41 (clF zC))))] [([], none)] 88 1 rfl rfl (by kernel_rfl) NewT.trans (NewT.refl _) (Nat.le_of_ble_eq_true rfl) ⟨?_, trivial⟩ ?_
      · intro a wx hT hF K hK
        refine rely_wp rfl ?_
        exact opr_build (pv := #[]) rfl (by simp only [List.map_toArray, List.map_cons, List.map_nil, eval_tmp, eval_const]) (build_cl0 wx) (hK _ _ (NewT.refl _) rfl)
      · intro w2 k2
        intro u h; obtain rfl := Eq.symm (h (by simp)); clear h
        refine relyEnd_nil rfl ?_
        simp only [Act.put, List.setIfInBounds_toArray, List.set_cons_zero, List.set_cons_succ]
        refine wpList_plain rfl (fun K hK => ?_)
        refine opr_putm (g := ga) (o0 := 0) (m := 41) (f := clF zC) (F := clF zC) rfl rfl rfl (k2.row Rga.out) (by decide) info_cl (clF_one _) (put_allN _ _ _) ?_
        intro W2 hR2 rr2
        refine hK _ _ ?_
        clear hK K
        simp only [Act.put, List.setIfInBounds_toArray, List.set_cons_zero, List.set_cons_succ]
        refine wpList_plain rfl (fun K hK => ?_)
        refine opr_move (.inr rfl) (hK _ _ ?_)
        clear hK K
        refine wpList_end rfl ?_
        simp only [Act.put, List.setIfInBounds_toArray, List.set_cons_zero, List.set_cons_succ]
        go_simp
        replace Rga := Lib.hid rr2
        replace Rgp := Lib.hid (hR2.row (by have h_0 := HG.out; have h_1 := HML.out; omega) (k2.row Rgp.out))
        replace Rgc := Lib.hid (hR2.row (by have h_0 := HG.out; have h_1 := HML.out; omega) (k2.row Rgc.out))
        replace Rg := Lib.hid (hR2.row (by have h_0 := HG.out; have h_1 := HML.out; omega) (k2.row Rg.out))
        replace HM := Lib.hid (NewT.rt (NewT.trans _ _ _ HM.out k2) hR2 (by have h_0 := HG.out; have h_1 := HML.out; omega))
        clear k2 hR2 rr2
        go_wp2
        have e1 : takeC kf ps ws need n e L c r = zC := by unfold takeC; rw [HE.out]; rfl
        have e2 : takeL n L c r = L := by unfold takeL; rw [HE.out]; rfl
        rw [e1, e2, HE.out]
        exact ⟨_, results_rt rfl rfl rfl Rga.out Tryd.underlying34 rfl info_cl, rfl, PT.new HM.out HLO.out.2, HPA.out.new HM.out, m, HMP.out, fun k h1 _ => HM.out.out.block k h1⟩
    · have HE : Hid (itsB n c = true) := Lib.hid hb
      clear hb
      go_upto_region 3 with fail
      refine wp_region_steps0 NewT [SV.eq (.bool (r)), SV.eq (.bool (!r))] [([(2, none)], none), ([(22, some 0)], none)] 88 2 rfl rfl (by kernel_rfl) NewT.trans (NewT.refl _) (Nat.le_of_ble_eq_true rfl) ⟨?_, ?_, trivial⟩ ?_
      · exact fun a wx hT hF K hK => rely_wp rfl (opr_move (.inl rfl) (hK _ _ (NewT.refl _) hF.1))
      · exact fun a wx hT hF K hK => rely_wp rfl (opr_not rfl hF.1 (hK _ _ (NewT.refl _) rfl))
      · intro w3 k3
        iterate 2 (intro u h; obtain rfl := Eq.symm (h (by simp)); clear h)
        refine relyEnd_nil rfl ?_
        simp only [Act.put, List.setIfInBounds_toArray, List.set_cons_zero, List.set_cons_succ]
        refine wpList_new1 (v := .bool (!r)) rfl rfl rfl rfl rfl rfl (by first | (simp; done) | simp [Act.put]) run_alloc_b info_bool rfl rfl ?_
        intro W3 hn3 rr3
        refine wpList_end rfl ?_
        simp only [Act.put, List.setIfInBounds_toArray, List.set_cons_zero, List.set_cons_succ]
        go_simp
        obtain ⟨gg, h_gg⟩ : ∃ g_, w3.heap.size = g_ := ⟨_, rfl⟩
        rw [h_gg] at rr3
        simp only [h_gg]
        have HGgg : Hid (gp < gg ∧ gc < gg ∧ ga < gg ∧ g < gg ∧ w.heap.size ≤ gg) := Lib.hid (by rw [← h_gg]; exact ⟨(k3.row Rgp.out).lt, (k3.row Rgc.out).lt, (k3.row Rga.out).lt, (k3.row Rg.out).lt, (NewT.trans _ _ _ HM.out k3).out.size⟩)
        have q3 := NewT.trans _ _ _ k3 hn3
        clear k3 hn3 h_gg
        replace Rgp := Lib.hid (q3.row Rgp.out)
        replace Rgc := Lib.hid (q3.row Rgc.out)
        replace Rga := Lib.hid (q3.row Rga.out)
        replace Rg := Lib.hid (q3.row Rg.out)
        replace HM := Lib.hid (NewT.trans _ _ _ HM.out q3)
        clear q3
        have Rgg := Lib.hid rr3
        clear rr3
        go_upto_region 5 with fail
        refine wp_region_steps0 NewT [SV.eq (.pointer (some ⟨gc, 0, none⟩)), SV.eq (.int .i64 (c.saga)), SV.eq (.pointer (some ⟨gc, 1, none⟩)), SV.eq (.int .i64 (c.step)), SV.eq (.pointer (some ⟨gc, 3, none⟩)), SV.eq (.bool (c.back)), SV.eq (.agg (rowA 3 (dyF c.saga c.step c.back)))] [([(4, none)], none), ([(25, some 0)], none), ([(4, none)], none), ([(27, some 2)], none), ([(4, none)], none), ([(29, some 4)], none), ([(26, some 1), (28, some 3), (30, some 5)], none)] 88 7 rfl rfl (by kernel_rfl) NewT.trans (NewT.refl _) (Nat.le_of_ble_eq_true rfl) ⟨?_, ?_, ?_, ?_, ?_, ?_, ?_, trivial⟩ ?_
        · exact fun a wx hT hF K hK => rely_wp rfl (opr_fldCl0 rfl hF.1 (hK _ _ (NewT.refl _) rfl))
        · exact fun a wx hT hF K hK => rely_wp rfl (opr_ldI (hT.row Rgc.out) (by decide) rfl rfl hF.1 (hK _ _ (NewT.refl _) rfl))
        · exact fun a wx hT hF K hK => rely_wp rfl (opr_fldCl1 rfl hF.1 (hK _ _ (NewT.refl _) rfl))
        · exact fun a wx hT hF K hK => rely_wp rfl (opr_ldI (hT.row Rgc.out) (by decide) rfl rfl hF.1 (hK _ _ (NewT.refl _) rfl))
        · exact fun a wx hT hF K hK => rely_wp rfl (opr_fldCl3 rfl hF.1 (hK _ _ (NewT.refl _) rfl))
        · exact fun a wx hT hF K hK => rely_wp rfl (opr_ldQ (hT.row Rgc.out) (by decide) rfl rfl hF.1 (hK _ _ (NewT.refl _) rfl))
        · intro a wx hT hF K hK
          obtain ⟨f26, f28, f30, _⟩ := hF
          have f26 : a.tmps.getD 26 undef = .int .i64 (c.saga) := f26
          have f28 : a.tmps.getD 28 undef = .int .i64 (c.step) := f28
          have f30 : a.tmps.getD 30 undef = .bool (c.back) := f30
          refine rely_wp rfl ?_
          exact opr_build (pv := #[(0, .int .i64 (c.saga)), (1, .int .i64 (c.step)), (2, .bool (c.back))]) rfl (by simp only [List.map_toArray, List.map_cons, List.map_nil, eval_tmp, eval_const, f26, f28, f30]) (run_bld_de c.saga c.step c.back wx) (hK _ _ (NewT.refl _) rfl)
        · intro w4 k4
          iterate 7 (intro u h; obtain rfl := Eq.symm (h (by simp)); clear h)
          refine relyEnd_nil rfl ?_
          simp only [Act.put, List.setIfInBounds_toArray, List.set_cons_zero, List.set_cons_succ]
          refine wpList_new (n := 3) (f := dyF c.saga c.step c.back) rfl rfl rfl rfl rfl rfl (by first | (simp; done) | simp [Act.put]) run_alloc_de info_de (dyF_one _ _ _) rfl ?_
          intro W4 hn4 rr4
          refine wpList_end rfl ?_
          simp only [Act.put, List.setIfInBounds_toArray, List.set_cons_zero, List.set_cons_succ]
          go_simp
          obtain ⟨gd, h_gd⟩ : ∃ g_, w4.heap.size = g_ := ⟨_, rfl⟩
          rw [h_gd] at rr4
          simp only [h_gd]
          have HGgd : Hid (gp < gd ∧ gc < gd ∧ ga < gd ∧ g < gd ∧ gg < gd ∧ w.heap.size ≤ gd) := Lib.hid (by rw [← h_gd]; exact ⟨(k4.row Rgp.out).lt, (k4.row Rgc.out).lt, (k4.row Rga.out).lt, (k4.row Rg.out).lt, (k4.row Rgg.out).lt, (NewT.trans _ _ _ HM.out k4).out.size⟩)
          have q4 := NewT.trans _ _ _ k4 hn4
          clear k4 hn4 h_gd
          replace Rgp := Lib.hid (q4.row Rgp.out)
          replace Rgc := Lib.hid (q4.row Rgc.out)
          replace Rga := Lib.hid (q4.row Rga.out)
          replace Rg := Lib.hid (q4.row Rg.out)
          replace Rgg := Lib.hid (q4.row Rgg.out)
          replace HM := Lib.hid (NewT.trans _ _ _ HM.out q4)
          clear q4
          have Rgd := Lib.hid rr4
          clear rr4
          go_upto_region 6 with fail
          refine wp_region_relyA0 (BelT W4) (JV 10 W4 73 2 (tdF false 0) (fun _ F => ∃ nn, F = tdF ((hasE L c.saga c.step c.back).getD false) nn)) [SV.eq (.pointer (some ⟨g, 0, none⟩)), SV.eq (.pointer (some ⟨g, 0, none⟩)), SV.eq (.pointer (some ⟨g, 5, none⟩)), SV.eq ((.map (some m))), SV.eq (.agg (rowA 3 (dyF c.saga c.step c.back))), svLk ((hasE L c.saga c.step c.back).getD false) ((hasE L c.saga c.step c.back).isSome), svLk ((hasE L c.saga c.step c.back).getD false) ((hasE L c.saga c.step c.back).isSome), svTd ((hasE L c.saga c.step c.back).getD false), SV.eq (.bool ((hasE L c.saga c.step c.back).isSome)), svPtV, SV.any] [([(3, none)], none), ([(33, some 0)], none), ([(34, some 1)], none), ([(35, some 2)], none), ([(9, none)], none), ([(36, some 3), (37, some 4)], none), ([(38, some 5)], none), ([(32, some 6)], none), ([(32, some 6)], none), ([], none), ([(10, some 9), (39, some 7)], none)] [none, none, none, none, none, none, none, none, none, some 0, some 1] [9, 10] 88 rfl (by kernel_rfl) rfl (by kernel_rfl) (by kernel_rfl) rfl (by kernel_rfl) (BelT.trans W4) (BelT.drew W4 _) (.inl rfl) (Nat.le_of_ble_eq_true rfl) ⟨?_, ?_, ?_, ?_, ?_, ?_, ?_, ?_, ?_, ?_, ?_, trivial⟩ ?_
          · intro a wx hT hF K hK
            replace hT : NewT W4 wx := hT
            replace hK := fun v w' (hN : NewT wx w') hv => hK v w' (BelT.new hT hN) (fun k h => JV.keep h (by simp) hN (fun F h => h)) hv
            obtain ⟨f3, _⟩ := hF
            have f3 : a.tmps.getD 3 undef = .pointer (some ⟨gp, 0, none⟩) := f3
            refine rely_wp rfl ?_
            exact opr_ldPp (hT.row Rgp.out) (by decide) rfl rfl f3 (hK _ _ (NewT.refl _) rfl)
          · intro a wx hT hF K hK
            replace hT : NewT W4 wx := hT
            replace hK := fun v w' (hN : NewT wx w') hv => hK v w' (BelT.new hT hN) (fun k h => JV.keep h (by simp) hN (fun F h => h)) hv
            obtain ⟨f33, _⟩ := hF
            have f33 : a.tmps.getD 33 undef = .pointer (some ⟨g, 0, none⟩) := f33
            refine rely_wp rfl ?_
            exact opr_nilc rfl f33 (hK _ _ (NewT.refl _) rfl)
          · intro a wx hT hF K hK
            replace hT : NewT W4 wx := hT
            replace hK := fun v w' (hN : NewT wx w') hv => hK v w' (BelT.new hT hN) (fun k h => JV.keep h (by simp) hN (fun F h => h)) hv
            obtain ⟨f34, _⟩ := hF
            have f34 : a.tmps.getD 34 undef = .pointer (some ⟨g, 0, none⟩) := f34
            refine rely_wp rfl ?_
            exact opr_fldPy3 rfl f34 (hK _ _ (NewT.refl _) rfl)
          · intro a wx hT hF K hK
            replace hT : NewT W4 wx := hT
            replace hK := fun v w' (hN : NewT wx w') hv => hK v w' (BelT.new hT hN) (fun k h => JV.keep h (by simp) hN (fun F h => h)) hv
            obtain ⟨f35, _⟩ := hF
            have f35 : a.tmps.getD 35 undef = .pointer (some ⟨g, 5, none⟩) := f35
            refine rely_wp rfl ?_
            exact opr_ldMp (hT.row Rg.out) (by decide) rfl rfl f35 (hK _ _ (NewT.refl _) rfl)
          · intro a wx hT hF K hK
            replace hT : NewT W4 wx := hT
            replace hK := fun v w' (hN : NewT wx w') hv => hK v w' (BelT.new hT hN) (fun k h => JV.keep h (by simp) hN (fun F h => h)) hv
            obtain ⟨f9, _⟩ := hF
            have f9 : a.tmps.getD 9 undef = .pointer (some ⟨gd, 0, none⟩) := f9
            refine rely_wp rfl ?_
            exact opr_ldDe (hT.row Rgd.out) rfl f9 (hK _ _ (NewT.refl _) rfl)
          · intro a wx hT hF K hK
            replace hT : NewT W4 wx := hT
            replace hK := fun v w' (hN : NewT wx w') hv => hK v w' (BelT.new hT hN) (fun k h => JV.keep h (by simp) hN (fun F h => h)) hv
            obtain ⟨f36, f37, _⟩ := hF
            have f36 : a.tmps.getD 36 undef = (.map (some m)) := f36
            have f37 : a.tmps.getD 37 undef = .agg (rowA 3 (dyF c.saga c.step c.back)) := f37
            refine rely_wp rfl ?_
            refine opr_lookT rfl f36 f37 ((NewT.trans _ _ _ HM.out hT).mapAt HMP.out) (fun nn => hK _ _ (NewT.refl _) ⟨nn, rfl⟩)
          · intro a wx hT hF K hK
            replace hT : NewT W4 wx := hT
            replace hK := fun v w' (hN : NewT wx w') hv => hK v w' (BelT.new hT hN) (fun k h => JV.keep h (by simp) hN (fun F h => h)) hv
            obtain ⟨f38, _⟩ := hF
            replace f38 := show (svLk ((hasE L c.saga c.step c.back).getD false) ((hasE L c.saga c.step c.back).isSome)).pred (a.tmps.getD 38 undef) wx from f38
            refine rely_wp rfl ?_
            exact opr_move (.inl rfl) (hK _ _ (NewT.refl _) f38)
          · intro a wx hT hF K hK
            replace hT : NewT W4 wx := hT
            replace hK := fun v w' (hN : NewT wx w') hv => hK v w' (BelT.new hT hN) (fun k h => JV.keep h (by simp) hN (fun F h => h)) hv
            obtain ⟨f32, _⟩ := hF
            replace f32 := show (svLk ((hasE L c.saga c.step c.back).getD false) ((hasE L c.saga c.step c.back).isSome)).pred (a.tmps.getD 32 undef) wx from f32
            refine rely_wp rfl ?_
            obtain ⟨nn, hnn⟩ := f32
            exact opr_ext rfl hnn rfl (hK _ _ (NewT.refl _) ⟨nn, rfl⟩)
          · intro a wx hT hF K hK
            replace hT : NewT W4 wx := hT
            replace hK := fun v w' (hN : NewT wx w') hv => hK v w' (BelT.new hT hN) (fun k h => JV.keep h (by simp) hN (fun F h => h)) hv
            obtain ⟨f32, _⟩ := hF
            replace f32 := show (svLk ((hasE L c.saga c.step c.back).getD false) ((hasE L c.saga c.step c.back).isSome)).pred (a.tmps.getD 32 undef) wx from f32
            refine rely_wp rfl ?_
            obtain ⟨nn, hnn⟩ := f32
            exact opr_ext rfl hnn rfl (hK _ _ (NewT.refl _) rfl)
          · intro a wx hT hF hJ K hK
            replace hT : NewT W4 wx := hT
            refine rely_wp rfl ?_
            refine opr_allocV rfl run_alloc_td ?_
            exact hK _ _ (BelT.new hT (NewT.alloc _ _)) (JV.make hT) ⟨_, rfl⟩
          · intro a wx hT hF hJ K hK
            replace hT : NewT W4 wx := hT
            obtain ⟨f10, f39, _⟩ := hF
            replace f10 := show (svPtV).pred (a.tmps.getD 10 undef) wx from f10
            replace f39 := show (svTd ((hasE L c.saga c.step c.back).getD false)).pred (a.tmps.getD 39 undef) wx from f39
            refine rely_wp rfl ?_
            obtain ⟨gv, hgv⟩ := f10
            obtain ⟨hB1, hr1⟩ := JV.at1 hJ hgv
            obtain ⟨nn, f39⟩ := f39
            refine opr_putm (g := gv) (o0 := 0) (m := 2) (f := tdF ((hasE L c.saga c.step c.back).getD false) nn) (F := tdF ((hasE L c.saga c.step c.back).getD false) nn) rfl hgv f39 hr1 (by decide) info_td (tdF_one _ _) (put_allN _ _ _) ?_
            intro w' hR hr2
            exact hK _ _ (BelT.rt hB1 hR) (JV.mk2 hgv hB1 hr2 (⟨nn, rfl⟩)) trivial
          · intro w5 k5
            iterate 5 (intro u h; obtain rfl := Eq.symm (h (by simp)); clear h)
            iterate 3 (intro _ _)
            intro u h; obtain rfl := Eq.symm (h (by simp)); clear h
            intro u h; obtain ⟨p10, hv⟩ := (h (by simp)); clear h; subst hv
            intro _ _
            refine relyEnd_nil rfl ?_
            intro hJ
            simp only [Act.put, List.setIfInBounds_toArray, List.set_cons_zero, List.set_cons_succ]
            obtain ⟨Fz, hBz, hrz, hGz⟩ := JV.at2 (g := p10) hJ (by kernel_rfl)
            refine opr_move (.inr rfl) ?_
            go_simp
            obtain ⟨nn, rfl⟩ := hGz
            replace k5 : NewT W4 w5 := k5
            obtain ⟨gt, h_gt⟩ : ∃ g_, p10 = g_ := ⟨_, rfl⟩
            rw [h_gt] at hrz hBz
            simp only [h_gt]
            have HGgt : Hid (gp < gt ∧ gc < gt ∧ ga < gt ∧ g < gt ∧ gg < gt ∧ gd < gt ∧ w.heap.size ≤ gt) := Lib.hid ⟨Nat.lt_of_lt_of_le Rgp.out.lt hBz, Nat.lt_of_lt_of_le Rgc.out.lt hBz, Nat.lt_of_lt_of_le Rga.out.lt hBz, Nat.lt_of_lt_of_le Rg.out.lt hBz, Nat.lt_of_lt_of_le Rgg.out.lt hBz, Nat.lt_of_lt_of_le Rgd.out.lt hBz, Nat.le_trans HM.out.out.size hBz⟩
            clear h_gt hBz hJ
            replace Rgp := Lib.hid (k5.row Rgp.out)
            replace Rgc := Lib.hid (k5.row Rgc.out)
            replace Rga := Lib.hid (k5.row Rga.out)
            replace Rg := Lib.hid (k5.row Rg.out)
            replace Rgg := Lib.hid (k5.row Rgg.out)
            replace Rgd := Lib.hid (k5.row Rgd.out)
            replace HM := Lib.hid (NewT.trans _ _ _ HM.out k5)
            clear k5
            have Rgt := Lib.hid hrz
            clear hrz
            go_upto_region 7 with fail
            refine wp_region_steps0 NewT [SV.eq (.bool ((hasE L c.saga c.step c.back).isSome))] [([(11, none)], none)] 88 1 rfl rfl (by kernel_rfl) NewT.trans (NewT.refl _) (Nat.le_of_ble_eq_true rfl) ⟨?_, trivial⟩ ?_
            · exact fun a wx hT hF K hK => rely_wp rfl (opr_move (.inl rfl) (hK _ _ (NewT.refl _) hF.1))
            · intro w6 k6
              intro u h; obtain rfl := Eq.symm (h (by simp)); clear h
              refine relyEnd_nil rfl ?_
              refine wpList_end rfl ?_
              simp only [Act.put, List.setIfInBounds_toArray, List.set_cons_zero, List.set_cons_succ]
              go_simp
              replace Rgp := Lib.hid (k6.row Rgp.out)
              replace Rgc := Lib.hid (k6.row Rgc.out)
              replace Rga := Lib.hid (k6.row Rga.out)
              replace Rg := Lib.hid (k6.row Rg.out)
              replace Rgg := Lib.hid (k6.row Rgg.out)
              replace Rgd := Lib.hid (k6.row Rgd.out)
              replace Rgt := Lib.hid (k6.row Rgt.out)
              replace HM := Lib.hid (NewT.trans _ _ _ HM.out k6)
              clear k6
              cases hb : ((hasE L c.saga c.step c.back).isSome)
              · have HN : Hid (hasE L c.saga c.step c.back = none) := Lib.hid (by cases hh : hasE L c.saga c.step c.back with
                    | none => rfl
                    | some _ => rw [hh] at hb; cases hb)
                clear hb
                go_upto_region 10 with fail
                obtain ⟨q1_10, Q1_10⟩ : ∃ bq_, ((!c.back) && ((hasE L c.saga c.step true).getD false)) = bq_ := ⟨_, rfl⟩
                refine wp_region_rely (NewT) [SV.eq (.pointer (some ⟨gc, 3, none⟩)), SV.eq (.bool (c.back)), SV.eq (.bool (!c.back)), SV.eq (.bool (!c.back)), svIf (!c.back) (SV.eq (.pointer (some ⟨g, 0, none⟩))), svIf (!c.back) (SV.eq (.pointer (some ⟨g, 0, none⟩))), svIf (!c.back) (SV.eq (.pointer (some ⟨g, 5, none⟩))), svIf (!c.back) (SV.eq ((.map (some m)))), svIf (!c.back) (SV.eq (.pointer (some ⟨gc, 0, none⟩))), svIf (!c.back) (SV.eq (.int .i64 (c.saga))), svIf (!c.back) (SV.eq (.pointer (some ⟨gc, 1, none⟩))), svIf (!c.back) (SV.eq (.int .i64 (c.step))), svIf (!c.back) (SV.eq (.agg (rowA 3 (dyF c.saga c.step true)))), svIf (!c.back) (svTd ((hasE L c.saga c.step true).getD false)), svIf (!c.back) (SV.eq (.bool ((hasE L c.saga c.step true).getD false))), SV.eq (.bool (q1_10))] [([(4, none)], none), ([(45, some 0)], none), ([(46, some 1)], none), ([(47, some 2)], none), ([(3, none), (48, some 3)], some (48, true)), ([(49, some 4), (48, some 3)], some (48, true)), ([(50, some 5), (48, some 3)], some (48, true)), ([(51, some 6), (48, some 3)], some (48, true)), ([(4, none), (48, some 3)], some (48, true)), ([(53, some 8), (48, some 3)], some (48, true)), ([(4, none), (48, some 3)], some (48, true)), ([(55, some 10), (48, some 3)], some (48, true)), ([(54, some 9), (56, some 11), (48, some 3)], some (48, true)), ([(52, some 7), (57, some 12), (48, some 3)], some (48, true)), ([(58, some 13), (48, some 3)], some (48, true)), ([(48, some 3), (59, some 14)], none)] 88 rfl (by kernel_rfl) rfl (by kernel_rfl) (by kernel_rfl) rfl NewT.trans (NewT.drew _) (Nat.le_of_ble_eq_true rfl) ⟨?_, ?_, ?_, ?_, ?_, ?_, ?_, ?_, ?_, ?_, ?_, ?_, ?_, ?_, ?_, ?_, trivial⟩ ?_
                · exact fun a wx hT hF K hK => rely_wp rfl (opr_fldCl3 rfl hF.1 (hK _ _ (NewT.refl _) rfl))
                · exact fun a wx hT hF K hK => rely_wp rfl (opr_ldQ (hT.row Rgc.out) (by decide) rfl rfl hF.1 (hK _ _ (NewT.refl _) rfl))
                · exact fun a wx hT hF K hK => rely_wp rfl (opr_not rfl hF.1 (hK _ _ (NewT.refl _) rfl))
                · exact fun a wx hT hF K hK => rely_wp rfl (opr_move (.inl rfl) (hK _ _ (NewT.refl _) hF.1))
                · exact fun a wx hT hF K hK => rely_if (rely_gt hF.2.1) (NewT.refl _) hK fun hE hK => opr_ldPp (hT.row Rgp.out) (by decide) rfl rfl hF.1 (hK _ _ (NewT.refl _) rfl)
                · exact fun a wx hT hF K hK => rely_if (rely_gt hF.2.1) (NewT.refl _) hK fun hE hK => opr_nilc rfl (hF.1 hE) (hK _ _ (NewT.refl _) rfl)
                · exact fun a wx hT hF K hK => rely_if (rely_gt hF.2.1) (NewT.refl _) hK fun hE hK => opr_fldPy3 rfl (hF.1 hE) (hK _ _ (NewT.refl _) rfl)
                · exact fun a wx hT hF K hK => rely_if (rely_gt hF.2.1) (NewT.refl _) hK fun hE hK => opr_ldMp (hT.row Rg.out) (by decide) rfl rfl (hF.1 hE) (hK _ _ (NewT.refl _) rfl)
                · exact fun a wx hT hF K hK => rely_if (rely_gt hF.2.1) (NewT.refl _) hK fun hE hK => opr_fldCl0 rfl hF.1 (hK _ _ (NewT.refl _) rfl)
                · exact fun a wx hT hF K hK => rely_if (rely_gt hF.2.1) (NewT.refl _) hK fun hE hK => opr_ldI (hT.row Rgc.out) (by decide) rfl rfl (hF.1 hE) (hK _ _ (NewT.refl _) rfl)
                · exact fun a wx hT hF K hK => rely_if (rely_gt hF.2.1) (NewT.refl _) hK fun hE hK => opr_fldCl1 rfl hF.1 (hK _ _ (NewT.refl _) rfl)
                · exact fun a wx hT hF K hK => rely_if (rely_gt hF.2.1) (NewT.refl _) hK fun hE hK => opr_ldI (hT.row Rgc.out) (by decide) rfl rfl (hF.1 hE) (hK _ _ (NewT.refl _) rfl)
                · intro a wx hT hF K hK
                  obtain ⟨f54, f56, f48, _⟩ := hF
                  have f54 : (!c.back) = true → a.tmps.getD 54 undef = .int .i64 (c.saga) := f54
                  have f56 : (!c.back) = true → a.tmps.getD 56 undef = .int .i64 (c.step) := f56
                  have f48 : a.tmps.getD 48 undef = .bool (!c.back) := f48
                  refine rely_if (rely_gt f48) (NewT.refl _) hK (fun hE hK => ?_)
                  exact opr_build (pv := #[(0, .int .i64 (c.saga)), (1, .int .i64 (c.step)), (2, .bool true)]) rfl (by simp only [List.map_toArray, List.map_cons, List.map_nil, eval_tmp, eval_const, (f54 hE), (f56 hE)]) (run_bld_de c.saga c.step true wx) (hK _ _ (NewT.refl _) rfl)
                · intro a wx hT hF K hK
                  obtain ⟨f52, f57, f48, _⟩ := hF
                  have f52 : (!c.back) = true → a.tmps.getD 52 undef = (.map (some m)) := f52
                  have f57 : (!c.back) = true → a.tmps.getD 57 undef = .agg (rowA 3 (dyF c.saga c.step true)) := f57
                  have f48 : a.tmps.getD 48 undef = .bool (!c.back) := f48
                  refine rely_if (rely_gt f48) (NewT.refl _) hK (fun hE hK => ?_)
                  refine opr_lookF rfl (f52 hE) (f57 hE) ((NewT.trans _ _ _ HM.out hT).mapAt HMP.out) (fun nn => hK _ _ (NewT.refl _) ⟨nn, rfl⟩)
                · intro a wx hT hF K hK
                  obtain ⟨f58, f48, _⟩ := hF
                  replace f58 := show (!c.back) = true → (svTd ((hasE L c.saga c.step true).getD false)).pred (a.tmps.getD 58 undef) wx from f58
                  have f48 : a.tmps.getD 48 undef = .bool (!c.back) := f48
                  refine rely_if (rely_gt f48) (NewT.refl _) hK (fun hE hK => ?_)
                  obtain ⟨nn, hnn⟩ := f58 hE
                  exact opr_fieldTd rfl hnn (hK _ _ (NewT.refl _) rfl)
                · exact fun a wx hT hF K hK => rely_wp rfl (opr_pick_b rfl hF.1 (fun hb => hK _ _ (NewT.refl _) (pn_and1 Q1_10 (hF.2.1 hb) hb)) (fun hb => hK _ _ (NewT.refl _) (pn_and0 Q1_10 hb)))
                · intro w7 k7
                  iterate 4 (intro u h; obtain rfl := Eq.symm (h (by simp)); clear h)
                  iterate 11 (intro _ _)
                  intro u h; obtain rfl := Eq.symm (h (by simp)); clear h
                  subst Q1_10
                  refine relyEnd_nil rfl ?_
                  simp only [Act.put, List.setIfInBounds_toArray, List.set_cons_zero, List.set_cons_succ]
                  refine opr_move (.inr rfl) ?_
                  go_simp
                  replace Rgp := Lib.hid (k7.row Rgp.out)
                  replace Rgc := Lib.hid (k7.row Rgc.out)
                  replace Rga := Lib.hid (k7.row Rga.out)
                  replace Rg := Lib.hid (k7.row Rg.out)
                  replace Rgg := Lib.hid (k7.row Rgg.out)
                  replace Rgd := Lib.hid (k7.row Rgd.out)
                  replace Rgt := Lib.hid (k7.row Rgt.out)
                  replace HM := Lib.hid (NewT.trans _ _ _ HM.out k7)
                  clear k7
                  go_upto_region 11 with fail
                  refine wp_region_steps0 NewT [SV.eq (.bool (!r)), SV.eq (.bool (!r)), svIf (!r) (SV.eq (.bool (undE L c))), svIf (!r) (SV.eq (.bool (!(undE L c)))), SV.eq (.bool ((!r) && (!(undE L c))))] [([(8, none)], none), ([(61, some 0)], none), ([(12, none), (62, some 1)], some (62, true)), ([(63, some 2), (62, some 1)], some (62, true)), ([(62, some 1), (64, some 3)], none)] 88 5 rfl rfl (by kernel_rfl) NewT.trans (NewT.refl _) (Nat.le_of_ble_eq_true rfl) ⟨?_, ?_, ?_, ?_, ?_, trivial⟩ ?_
                  · exact fun a wx hT hF K hK => rely_wp rfl (opr_ldQ (hT.row Rgg.out) (by decide) rfl rfl hF.1 (hK _ _ (NewT.refl _) rfl))
                  · exact fun a wx hT hF K hK => rely_wp rfl (opr_move (.inl rfl) (hK _ _ (NewT.refl _) hF.1))
                  · exact fun a wx hT hF K hK => rely_if (rely_gt hF.2.1) (NewT.refl _) hK fun hE hK => opr_move (.inl rfl) (hK _ _ (NewT.refl _) hF.1)
                  · exact fun a wx hT hF K hK => rely_if (rely_gt hF.2.1) (NewT.refl _) hK fun hE hK => opr_not rfl (hF.1 hE) (hK _ _ (NewT.refl _) rfl)
                  · exact fun a wx hT hF K hK => rely_wp rfl (opr_pick_b rfl hF.1 (fun hb => hK _ _ (NewT.refl _) (pk_and1 (hF.2.1 hb) hb)) (fun hb => hK _ _ (NewT.refl _) (pk_and0 hb)))
                  · intro w8 k8
                    iterate 2 (intro u h; obtain rfl := Eq.symm (h (by simp)); clear h)
                    iterate 2 (intro _ _)
                    intro u h; obtain rfl := Eq.symm (h (by simp)); clear h
                    refine relyEnd_nil rfl ?_
                    simp only [Act.put, List.setIfInBounds_toArray, List.set_cons_zero, List.set_cons_succ]
                    refine wpList_plain rfl (fun K hK => ?_)
                    refine opr_put1 (g := gg) (o0 := 0) (v := .bool (goodN L c r)) (F := fun _ => .bool (goodN L c r)) rfl rfl rfl (k8.row Rgg.out) (by decide) info_bool rfl (fun i hi => by rw [if_pos (by omega)]) ?_
                    intro W8 hR8 rr8
                    refine hK _ _ ?_
                    clear hK K
                    refine wpList_end rfl ?_
                    simp only [Act.put, List.setIfInBounds_toArray, List.set_cons_zero, List.set_cons_succ]
                    go_simp
                    replace Rgg := Lib.hid rr8
                    replace Rgp := Lib.hid (hR8.row (by have h_0 := HG.out; have h_1 := HML.out; have h_2 := HGgg.out; have h_3 := HGgd.out; have h_4 := HGgt.out; omega) (k8.row Rgp.out))
                    replace Rgc := Lib.hid (hR8.row (by have h_0 := HG.out; have h_1 := HML.out; have h_2 := HGgg.out; have h_3 := HGgd.out; have h_4 := HGgt.out; omega) (k8.row Rgc.out))
                    replace Rga := Lib.hid (hR8.row (by have h_0 := HG.out; have h_1 := HML.out; have h_2 := HGgg.out; have h_3 := HGgd.out; have h_4 := HGgt.out; omega) (k8.row Rga.out))
                    replace Rg := Lib.hid (hR8.row (by have h_0 := HG.out; have h_1 := HML.out; have h_2 := HGgg.out; have h_3 := HGgd.out; have h_4 := HGgt.out; omega) (k8.row Rg.out))
                    replace Rgd := Lib.hid (hR8.row (by have h_0 := HG.out; have h_1 := HML.out; have h_2 := HGgg.out; have h_3 := HGgd.out; have h_4 := HGgt.out; omega) (k8.row Rgd.out))
                    replace Rgt := Lib.hid (hR8.row (by have h_0 := HG.out; have h_1 := HML.out; have h_2 := HGgg.out; have h_3 := HGgd.out; have h_4 := HGgt.out; omega) (k8.row Rgt.out))
                    replace HM := Lib.hid (NewT.rt (NewT.trans _ _ _ HM.out k8) hR8 (by have h_0 := HG.out; have h_1 := HML.out; have h_2 := HGgg.out; have h_3 := HGgd.out; have h_4 := HGgt.out; omega))
                    clear k8 hR8 rr8
                    go_upto_region 12 with fail
                    obtain ⟨q1_12, Q1_12⟩ : ∃ bq_, (((goodN L c r) || (undE L c)) || (!(askB c))) = bq_ := ⟨_, rfl⟩
                    refine wp_region_steps0 NewT [SV.eq (.bool (goodN L c r)), SV.eq (.bool (goodN L c r)), svIf ((!(goodN L c r))) (SV.eq (.bool (undE L c))), SV.eq (.bool ((goodN L c r) || (undE L c))), SV.eq (.bool ((goodN L c r) || (undE L c))), svIf ((!((goodN L c r) || (undE L c)))) (SV.eq (.agg (rowA 41 (clF c)))), svIf ((!((goodN L c r) || (undE L c)))) (SV.eq (.bool (askB c))), svIf ((!((goodN L c r) || (undE L c)))) (SV.eq (.bool (!(askB c)))), SV.eq (.bool (q1_12))] [([(8, none)], none), ([(66, some 0)], none), ([(12, none), (67, some 1)], some (67, false)), ([(67, some 1), (68, some 2)], none), ([(69, some 3)], none), ([(4, none), (70, some 4)], some (70, false)), ([(71, some 5), (70, some 4)], some (70, false)), ([(72, some 6), (70, some 4)], some (70, false)), ([(70, some 4), (73, some 7)], none)] 88 9 rfl rfl (by kernel_rfl) NewT.trans (NewT.refl _) (Nat.le_of_ble_eq_true rfl) ⟨?_, ?_, ?_, ?_, ?_, ?_, ?_, ?_, ?_, trivial⟩ ?_
                    · exact fun a wx hT hF K hK => rely_wp rfl (opr_ldQ (hT.row Rgg.out) (by decide) rfl rfl hF.1 (hK _ _ (NewT.refl _) rfl))
                    · exact fun a wx hT hF K hK => rely_wp rfl (opr_move (.inl rfl) (hK _ _ (NewT.refl _) hF.1))
                    · exact fun a wx hT hF K hK => rely_if (rely_gf hF.2.1) (NewT.refl _) hK fun hE hK => opr_move (.inl rfl) (hK _ _ (NewT.refl _) hF.1)
                    · exact fun a wx hT hF K hK => rely_wp rfl (opr_pick_b rfl hF.1 (fun hb => hK _ _ (NewT.refl _) (pk_or1 hb)) (fun hb => hK _ _ (NewT.refl _) (pk_or0 (hF.2.1 (bnot hb)) hb)))
                    · exact fun a wx hT hF K hK => rely_wp rfl (opr_move (.inl rfl) (hK _ _ (NewT.refl _) hF.1))
                    · exact fun a wx hT hF K hK => rely_if (rely_gf hF.2.1) (NewT.refl _) hK fun hE hK => opr_ldCl (hT.row Rgc.out) rfl hF.1 (hK _ _ (NewT.refl _) rfl)
                    · exact fun a wx hT hF K hK => rely_if (rely_gf hF.2.1) (NewT.refl _) hK fun hE hK => opr_cv (isAsked_cv c wx) rfl Tryd.func31 (by kernel_rfl) (by kernel_rfl) (evs1 (hF.1 hE)) hK
                    · exact fun a wx hT hF K hK => rely_if (rely_gf hF.2.1) (NewT.refl _) hK fun hE hK => opr_not rfl (hF.1 hE) (hK _ _ (NewT.refl _) rfl)
                    · exact fun a wx hT hF K hK => rely_wp rfl (opr_pick_b rfl hF.1 (fun hb => hK _ _ (NewT.refl _) (pn_or1 Q1_12 hb)) (fun hb => hK _ _ (NewT.refl _) (pn_or0 Q1_12 (hF.2.1 (bnot hb)) hb)))
                    · intro w9 k9
                      iterate 2 (intro u h; obtain rfl := Eq.symm (h (by simp)); clear h)
                      intro _ _
                      iterate 2 (intro u h; obtain rfl := Eq.symm (h (by simp)); clear h)
                      iterate 3 (intro _ _)
                      intro u h; obtain rfl := Eq.symm (h (by simp)); clear h
                      subst Q1_12
                      refine relyEnd_nil rfl ?_
                      refine wpList_end rfl ?_
                      simp only [Act.put, List.setIfInBounds_toArray, List.set_cons_zero, List.set_cons_succ]
                      go_simp
                      replace Rgp := Lib.hid (k9.row Rgp.out)
                      replace Rgc := Lib.hid (k9.row Rgc.out)
                      replace Rga := Lib.hid (k9.row Rga.out)
                      replace Rg := Lib.hid (k9.row Rg.out)
                      replace Rgg := Lib.hid (k9.row Rgg.out)
                      replace Rgd := Lib.hid (k9.row Rgd.out)
                      replace Rgt := Lib.hid (k9.row Rgt.out)
                      replace HM := Lib.hid (NewT.trans _ _ _ HM.out k9)
                      clear k9
                      cases hb : ((((goodN L c r) || (undE L c)) || (!(askB c))))
                      · have HKL : Hid (keepL L c r = L) := Lib.hid (by unfold keepL; rw [HN.out]; simp only [Option.isSome_none, Bool.false_eq_true, if_false]; rw [show putB L c r = _ from hb]; rfl)
                        have HGD : Hid (goodE L c r = goodN L c r) := Lib.hid (by unfold goodE; rw [HN.out]; rfl)
                        clear hb
                        have hPT : PT lo hi w w9 := PT.new HM.out HLO.out.2
                        have hPA : PartAt w9 lo hi g n e ps ws need (L) := HPA.out.new HM.out
                        have HKO : Hid (∀ k, k < w.heap.size → k ≠ m → w9.heap[k]? = w.heap[k]?) := Lib.hid (fun k h1 _ => HM.out.out.block k h1)
                        have HPT := Lib.hid hPT
                        have HPB := Lib.hid hPA
                        clear hPT hPA
                        go_upto_region 14 with fail
                        refine wp_region_steps0 NewT [SV.eq (.agg (rowA 41 (clF zC)))] [([(6, none)], none)] 88 1 rfl rfl (by kernel_rfl) NewT.trans (NewT.refl _) (Nat.le_of_ble_eq_true rfl) ⟨?_, trivial⟩ ?_
                        · exact fun a wx hT hF K hK => rely_wp rfl (opr_ldCl (hT.row Rga.out) rfl hF.1 (hK _ _ (NewT.refl _) rfl))
                        · intro w10 k10
                          intro u h; obtain rfl := Eq.symm (h (by simp)); clear h
                          refine relyEnd_nil rfl ?_
                          simp only [Act.put, List.setIfInBounds_toArray, List.set_cons_zero, List.set_cons_succ]
                          refine wpList_plain rfl (fun K hK => ?_)
                          refine opr_putm (g := ga) (o0 := 0) (m := 41) (f := clF zC) (F := clF zC) rfl rfl rfl (k10.row Rga.out) (by decide) info_cl (clF_one _) (put_allN _ _ _) ?_
                          intro W8 hR8 rr8
                          refine hK _ _ ?_
                          clear hK K
                          simp only [Act.put, List.setIfInBounds_toArray, List.set_cons_zero, List.set_cons_succ]
                          refine wpList_plain rfl (fun K hK => ?_)
                          refine opr_move (.inr rfl) (hK _ _ ?_)
                          clear hK K
                          refine wpList_end rfl ?_
                          simp only [Act.put, List.setIfInBounds_toArray, List.set_cons_zero, List.set_cons_succ]
                          go_simp
                          have hs0 : hi ≤ w.heap.size := HPA.out.lt.2.2
                          have hga : w.heap.size ≤ ga := by have := HG.out; omega
                          have hgi : hi ≤ ga := by have := HG.out; omega
                          have hPA8 := (HPB.out.new k10).rt hR8 hgi
                          have hR28 := RT.trans _ _ _ (RT.new Rga.out.lt k10) hR8
                          have hPT8 := HPT.out.rt hR28 hga HLO.out.2
                          have hgg : gg ≠ ga := by have := HGgg.out; omega
                          go_wp2
                          refine leaves_cons (f := 29) (args := #[.pointer (some ⟨gp, 0, none⟩), .pointer (some ⟨gc, 0, none⟩), .pointer (some ⟨gg, 0, none⟩), .pointer (some ⟨ga, 0, none⟩)]) (by simp) (by simp [go_sem]) ?_
                          refine (Take1_c hX (c := c) (x := zC) (good := goodN L c r) .returning W8 (hPT8.tables HTT.out HLO.out.1) hPA8 (hR28.row (by have := HG.out; omega) Rgp.out) (hR28.row (by have := HG.out; omega) Rgc.out) (hR28.row hgg Rgg.out) rr8).mono ?_
                          rintro ex u' w'' ⟨rfl, rfl, hR9, rr9⟩
                          have e1 : takeC kf ps ws need n e L c r = ansC kf ps ws need e c (goodN L c r) := by unfold takeC; rw [if_pos HE.out, HGD.out]
                          have e2 : takeL n L c r = L := by unfold takeL; rw [if_pos HE.out, HKL.out]
                          rw [e1, e2, HE.out]
                          exact ⟨_, results_rt rfl rfl rfl rr9 Tryd.underlying34 rfl info_cl, rfl, hPT8.rt hR9 hga HLO.out.2, hPA8.rt hR9 hgi, m, HMP.out, fun k h1 h2 => (hR9.below.block k (by omega)).trans ((hR8.below.block k (by omega)).trans ((k10.out.block k (Nat.lt_of_lt_of_le h1 HPT.out.size)).trans (HKO.out k h1 h2)))⟩
                      · have HKL : Hid (keepL L c r = L ++ [⟨c.saga, c.step, c.back, goodN L c r⟩]) := Lib.hid (by unfold keepL; rw [HN.out]; simp only [Option.isSome_none, Bool.false_eq_true, if_false]; rw [show putB L c r = _ from hb]; rfl)
                        have HGD : Hid (goodE L c r = goodN L c r) := Lib.hid (by unfold goodE; rw [HN.out]; rfl)
                        clear hb
                        go_upto_region 13 with fail
                        refine wp_region_rely (NewT) [SV.eq (.pointer (some ⟨g, 0, none⟩)), SV.eq (.pointer (some ⟨g, 0, none⟩)), SV.eq (.pointer (some ⟨g, 5, none⟩)), SV.eq ((.map (some m))), SV.eq (.agg (rowA 3 (dyF c.saga c.step c.back))), SV.eq (.bool (goodN L c r)), SV.eq (.pointer (some ⟨g, 0, none⟩)), SV.eq (.pointer (some ⟨g, 0, none⟩)), SV.eq (.pointer (some ⟨g, 5, none⟩)), SV.eq ((.map (some m))), SV.eq (.int .i64 ((List.length L : Int))), SV.eq (.agg (rowA 2 (tdF (goodN L c r) ((List.length L : Int)))))] [([(3, none)], none), ([(75, some 0)], none), ([(76, some 1)], none), ([(77, some 2)], none), ([(9, none)], none), ([(8, none)], none), ([(3, none)], none), ([(81, some 6)], none), ([(82, some 7)], none), ([(83, some 8)], none), ([(84, some 9)], none), ([(80, some 5), (85, some 10)], none)] 88 rfl (by kernel_rfl) rfl (by kernel_rfl) (by kernel_rfl) rfl NewT.trans (NewT.drew _) (Nat.le_of_ble_eq_true rfl) ⟨?_, ?_, ?_, ?_, ?_, ?_, ?_, ?_, ?_, ?_, ?_, ?_, trivial⟩ ?_
                        · exact fun a wx hT hF K hK => rely_wp rfl (opr_ldPp (hT.row Rgp.out) (by decide) rfl rfl hF.1 (hK _ _ (NewT.refl _) rfl))
                        · exact fun a wx hT hF K hK => rely_wp rfl (opr_nilc rfl hF.1 (hK _ _ (NewT.refl _) rfl))
                        · exact fun a wx hT hF K hK => rely_wp rfl (opr_fldPy3 rfl hF.1 (hK _ _ (NewT.refl _) rfl))
                        · exact fun a wx hT hF K hK => rely_wp rfl (opr_ldMp (hT.row Rg.out) (by decide) rfl rfl hF.1 (hK _ _ (NewT.refl _) rfl))
                        · exact fun a wx hT hF K hK => rely_wp rfl (opr_ldDe (hT.row Rgd.out) rfl hF.1 (hK _ _ (NewT.refl _) rfl))
                        · exact fun a wx hT hF K hK => rely_wp rfl (opr_ldQ (hT.row Rgg.out) (by decide) rfl rfl hF.1 (hK _ _ (NewT.refl _) rfl))
                        · exact fun a wx hT hF K hK => rely_wp rfl (opr_ldPp (hT.row Rgp.out) (by decide) rfl rfl hF.1 (hK _ _ (NewT.refl _) rfl))
                        · exact fun a wx hT hF K hK => rely_wp rfl (opr_nilc rfl hF.1 (hK _ _ (NewT.refl _) rfl))
                        · exact fun a wx hT hF K hK => rely_wp rfl (opr_fldPy3 rfl hF.1 (hK _ _ (NewT.refl _) rfl))
                        · exact fun a wx hT hF K hK => rely_wp rfl (opr_ldMp (hT.row Rg.out) (by decide) rfl rfl hF.1 (hK _ _ (NewT.refl _) rfl))
                        · exact fun a wx hT hF K hK => rely_wp rfl (opr_lenM (t := 0) rfl hF.1 ((NewT.trans _ _ _ HM.out hT).mapAt HMP.out) (hK _ _ (NewT.refl _) rfl))
                        · intro a wx hT hF K hK
                          obtain ⟨f80, f85, _⟩ := hF
                          have f80 : a.tmps.getD 80 undef = .bool (goodN L c r) := f80
                          have f85 : a.tmps.getD 85 undef = .int .i64 ((List.length L : Int)) := f85
                          refine rely_wp rfl ?_
                          exact opr_build (pv := #[(0, .bool (goodN L c r)), (1, .int .i64 ((List.length L : Int)))]) rfl (by simp only [List.map_toArray, List.map_cons, List.map_nil, eval_tmp, eval_const, f80, f85]) (run_bld_td (goodN L c r) ((List.length L : Int)) wx) (hK _ _ (NewT.refl _) rfl)
                        · intro w11 k11
                          iterate 12 (intro u h; obtain rfl := Eq.symm (h (by simp)); clear h)
                          refine relyEnd_nil rfl ?_
                          simp only [Act.put, List.setIfInBounds_toArray, List.set_cons_zero, List.set_cons_succ]
                          refine opr_insD (L := L) (g := goodN L c r) rfl rfl rfl rfl ((NewT.trans _ _ _ HM.out k11).mapAt HMP.out) HN.out ?_
                          intro W7 hB7 hO7 hM7
                          go_simp
                          have hNk := NewT.trans _ _ _ HM.out k11
                          have hlt := HML.out
                          have hsz := HM.out.out.size
                          have hPA7 := PartAt.put (hi := hi) (w' := W7) (hNk.row HR.out) (hNk.mapAt HMP.out) (HPI.out.of fun k (_ : lo ≤ k) (h2 : k < g) _ => hNk.out.block k (by omega)) (HWI.out.of fun k (_ : lo ≤ k) (h2 : k < g) _ => hNk.out.block k (by omega)) (by have := hNk.out.size; omega) hB7.size hO7 hM7
                          have hPT7 : PT lo hi w W7 := ⟨(hNk.out.mono HLO.out.2).trans (hB7.mono (by omega)), fun k h1 h2 => (hO7 k (by omega)).trans (hNk.out.block k h1)⟩
                          have hKO7 : ∀ k, k < w.heap.size → k ≠ m → W7.heap[k]? = w.heap[k]? := fun k h1 h2 => (hO7 k h2).trans (hNk.out.block k h1)
                          replace Rgp := Lib.hid (row_of (hO7 gp (by have := HG.out; omega)) (k11.row Rgp.out))
                          replace Rgc := Lib.hid (row_of (hO7 gc (by have := HG.out; omega)) (k11.row Rgc.out))
                          replace Rga := Lib.hid (row_of (hO7 ga (by have := HG.out; omega)) (k11.row Rga.out))
                          replace Rgg := Lib.hid (row_of (hO7 gg (by have := HG.out; have := HGgg.out; omega)) (k11.row Rgg.out))
                          clear hB7 hO7 hM7 k11 Rgt Rgd Rg hNk hlt hsz HM
                          have hPT : PT lo hi w W7 := hPT7
                          have hPA : PartAt W7 lo hi g n e ps ws need (L ++ [⟨c.saga, c.step, c.back, goodN L c r⟩]) := hPA7
                          have HKO : Hid (∀ k, k < w.heap.size → k ≠ m → W7.heap[k]? = w.heap[k]?) := Lib.hid (hKO7)
                          have HPT := Lib.hid hPT
                          have HPB := Lib.hid hPA
                          clear hPT hPA
                          go_upto_region 14 with fail
                          refine wp_region_steps0 NewT [SV.eq (.agg (rowA 41 (clF zC)))] [([(6, none)], none)] 88 1 rfl rfl (by kernel_rfl) NewT.trans (NewT.refl _) (Nat.le_of_ble_eq_true rfl) ⟨?_, trivial⟩ ?_
                          · exact fun a wx hT hF K hK => rely_wp rfl (opr_ldCl (hT.row Rga.out) rfl hF.1 (hK _ _ (NewT.refl _) rfl))
                          · intro w12 k12
                            intro u h; obtain rfl := Eq.symm (h (by simp)); clear h
                            refine relyEnd_nil rfl ?_
                            simp only [Act.put, List.setIfInBounds_toArray, List.set_cons_zero, List.set_cons_succ]
                            refine wpList_plain rfl (fun K hK => ?_)
                            refine opr_putm (g := ga) (o0 := 0) (m := 41) (f := clF zC) (F := clF zC) rfl rfl rfl (k12.row Rga.out) (by decide) info_cl (clF_one _) (put_allN _ _ _) ?_
                            intro W8 hR8 rr8
                            refine hK _ _ ?_
                            clear hK K
                            simp only [Act.put, List.setIfInBounds_toArray, List.set_cons_zero, List.set_cons_succ]
                            refine wpList_plain rfl (fun K hK => ?_)
                            refine opr_move (.inr rfl) (hK _ _ ?_)
                            clear hK K
                            refine wpList_end rfl ?_
                            simp only [Act.put, List.setIfInBounds_toArray, List.set_cons_zero, List.set_cons_succ]
                            go_simp
                            have hs0 : hi ≤ w.heap.size := HPA.out.lt.2.2
                            have hga : w.heap.size ≤ ga := by have := HG.out; omega
                            have hgi : hi ≤ ga := by have := HG.out; omega
                            have hPA8 := (HPB.out.new k12).rt hR8 hgi
                            have hR28 := RT.trans _ _ _ (RT.new Rga.out.lt k12) hR8
                            have hPT8 := HPT.out.rt hR28 hga HLO.out.2
                            have hgg : gg ≠ ga := by have := HGgg.out; omega
                            go_wp2
                            refine leaves_cons (f := 29) (args := #[.pointer (some ⟨gp, 0, none⟩), .pointer (some ⟨gc, 0, none⟩), .pointer (some ⟨gg, 0, none⟩), .pointer (some ⟨ga, 0, none⟩)]) (by simp) (by simp [go_sem]) ?_
                            refine (Take1_c hX (c := c) (x := zC) (good := goodN L c r) .returning W8 (hPT8.tables HTT.out HLO.out.1) hPA8 (hR28.row (by have := HG.out; omega) Rgp.out) (hR28.row (by have := HG.out; omega) Rgc.out) (hR28.row hgg Rgg.out) rr8).mono ?_
                            rintro ex u' w'' ⟨rfl, rfl, hR9, rr9⟩
                            have e1 : takeC kf ps ws need n e L c r = ansC kf ps ws need e c (goodN L c r) := by unfold takeC; rw [if_pos HE.out, HGD.out]
                            have e2 : takeL n L c r = L ++ [⟨c.saga, c.step, c.back, goodN L c r⟩] := by unfold takeL; rw [if_pos HE.out, HKL.out]
                            rw [e1, e2, HE.out]
                            exact ⟨_, results_rt rfl rfl rfl rr9 Tryd.underlying34 rfl info_cl, rfl, hPT8.rt hR9 hga HLO.out.2, hPA8.rt hR9 hgi, m, HMP.out, fun k h1 h2 => (hR9.below.block k (by omega)).trans ((hR8.below.block k (by omega)).trans ((k12.out.block k (Nat.lt_of_lt_of_le h1 HPT.out.size)).trans (HKO.out k h1 h2)))⟩
              · obtain ⟨gd0, hgd0⟩ : ∃ x, hasE L c.saga c.step c.back = some x := Option.isSome_iff_exists.1 hb
                have HKL : Hid (keepL L c r = L) := Lib.hid (keep_has _ _ _ hb)
                have HGD : Hid (goodE L c r = (hasE L c.saga c.step c.back).getD false) := Lib.hid (by unfold goodE; rw [hgd0]; rfl)
                clear hb hgd0
                go_upto_region 8 with fail
                refine wp_region_steps0 NewT [SV.eq (.pointer (some ⟨gt, 0, none⟩)), SV.eq (.bool ((hasE L c.saga c.step c.back).getD false))] [([(10, none)], none), ([(42, some 0)], none)] 88 2 rfl rfl (by kernel_rfl) NewT.trans (NewT.refl _) (Nat.le_of_ble_eq_true rfl) ⟨?_, ?_, trivial⟩ ?_
                · exact fun a wx hT hF K hK => rely_wp rfl (opr_fldTd0 rfl hF.1 (hK _ _ (NewT.refl _) rfl))
                · exact fun a wx hT hF K hK => rely_wp rfl (opr_ldQ (hT.row Rgt.out) (by decide) rfl rfl hF.1 (hK _ _ (NewT.refl _) rfl))
                · intro w13 k13
                  iterate 2 (intro u h; obtain rfl := Eq.symm (h (by simp)); clear h)
                  refine relyEnd_nil rfl ?_
                  simp only [Act.put, List.setIfInBounds_toArray, List.set_cons_zero, List.set_cons_succ]
                  refine wpList_plain rfl (fun K hK => ?_)
                  refine opr_put1 (g := gg) (o0 := 0) (v := .bool ((hasE L c.saga c.step c.back).getD false)) (F := fun _ => .bool ((hasE L c.saga c.step c.back).getD false)) rfl rfl rfl (k13.row Rgg.out) (by decide) info_bool rfl (fun i hi => by rw [if_pos (by omega)]) ?_
                  intro W13 hR13 rr13
                  refine hK _ _ ?_
                  clear hK K
                  refine wpList_end rfl ?_
                  simp only [Act.put, List.setIfInBounds_toArray, List.set_cons_zero, List.set_cons_succ]
                  go_simp
                  replace Rgg := Lib.hid rr13
                  replace Rgp := Lib.hid (hR13.row (by have h_0 := HG.out; have h_1 := HML.out; have h_2 := HGgg.out; have h_3 := HGgd.out; have h_4 := HGgt.out; omega) (k13.row Rgp.out))
                  replace Rgc := Lib.hid (hR13.row (by have h_0 := HG.out; have h_1 := HML.out; have h_2 := HGgg.out; have h_3 := HGgd.out; have h_4 := HGgt.out; omega) (k13.row Rgc.out))
                  replace Rga := Lib.hid (hR13.row (by have h_0 := HG.out; have h_1 := HML.out; have h_2 := HGgg.out; have h_3 := HGgd.out; have h_4 := HGgt.out; omega) (k13.row Rga.out))
                  replace Rg := Lib.hid (hR13.row (by have h_0 := HG.out; have h_1 := HML.out; have h_2 := HGgg.out; have h_3 := HGgd.out; have h_4 := HGgt.out; omega) (k13.row Rg.out))
                  replace Rgd := Lib.hid (hR13.row (by have h_0 := HG.out; have h_1 := HML.out; have h_2 := HGgg.out; have h_3 := HGgd.out; have h_4 := HGgt.out; omega) (k13.row Rgd.out))
                  replace Rgt := Lib.hid (hR13.row (by have h_0 := HG.out; have h_1 := HML.out; have h_2 := HGgg.out; have h_3 := HGgd.out; have h_4 := HGgt.out; omega) (k13.row Rgt.out))
                  replace HM := Lib.hid (NewT.rt (NewT.trans _ _ _ HM.out k13) hR13 (by have h_0 := HG.out; have h_1 := HML.out; have h_2 := HGgg.out; have h_3 := HGgd.out; have h_4 := HGgt.out; omega))
                  clear k13 hR13 rr13
                  have hPT : PT lo hi w W13 := PT.new HM.out HLO.out.2
                  have hPA : PartAt W13 lo hi g n e ps ws need (L) := HPA.out.new HM.out
                  have HKO : Hid (∀ k, k < w.heap.size → k ≠ m → W13.heap[k]? = w.heap[k]?) := Lib.hid (fun k h1 _ => HM.out.out.block k h1)
                  have HPT := Lib.hid hPT
                  have HPB := Lib.hid hPA
                  clear hPT hPA
                  go_upto_region 9 with fail
                  refine wp_region_steps0 NewT [SV.eq (.agg (rowA 41 (clF zC)))] [([(6, none)], none)] 88 1 rfl rfl (by kernel_rfl) NewT.trans (NewT.refl _) (Nat.le_of_ble_eq_true rfl) ⟨?_, trivial⟩ ?_
                  · exact fun a wx hT hF K hK => rely_wp rfl (opr_ldCl (hT.row Rga.out) rfl hF.1 (hK _ _ (NewT.refl _) rfl))
                  · intro w14 k14
                    intro u h; obtain rfl := Eq.symm (h (by simp)); clear h
                    refine relyEnd_nil rfl ?_
                    simp only [Act.put, List.setIfInBounds_toArray, List.set_cons_zero, List.set_cons_succ]
                    refine wpList_plain rfl (fun K hK => ?_)
                    refine opr_putm (g := ga) (o0 := 0) (m := 41) (f := clF zC) (F := clF zC) rfl rfl rfl (k14.row Rga.out) (by decide) info_cl (clF_one _) (put_allN _ _ _) ?_
                    intro W8 hR8 rr8
                    refine hK _ _ ?_
                    clear hK K
                    simp only [Act.put, List.setIfInBounds_toArray, List.set_cons_zero, List.set_cons_succ]
                    refine wpList_plain rfl (fun K hK => ?_)
                    refine opr_move (.inr rfl) (hK _ _ ?_)
                    clear hK K
                    refine wpList_end rfl ?_
                    simp only [Act.put, List.setIfInBounds_toArray, List.set_cons_zero, List.set_cons_succ]
                    go_simp
                    have hs0 : hi ≤ w.heap.size := HPA.out.lt.2.2
                    have hga : w.heap.size ≤ ga := by have := HG.out; omega
                    have hgi : hi ≤ ga := by have := HG.out; omega
                    have hPA8 := (HPB.out.new k14).rt hR8 hgi
                    have hR28 := RT.trans _ _ _ (RT.new Rga.out.lt k14) hR8
                    have hPT8 := HPT.out.rt hR28 hga HLO.out.2
                    have hgg : gg ≠ ga := by have := HGgg.out; omega
                    go_wp2
                    refine leaves_cons (f := 29) (args := #[.pointer (some ⟨gp, 0, none⟩), .pointer (some ⟨gc, 0, none⟩), .pointer (some ⟨gg, 0, none⟩), .pointer (some ⟨ga, 0, none⟩)]) (by simp) (by simp [go_sem]) ?_
                    refine (Take1_c hX (c := c) (x := zC) (good := (hasE L c.saga c.step c.back).getD false) .returning W8 (hPT8.tables HTT.out HLO.out.1) hPA8 (hR28.row (by have := HG.out; omega) Rgp.out) (hR28.row (by have := HG.out; omega) Rgc.out) (hR28.row hgg Rgg.out) rr8).mono ?_
                    rintro ex u' w'' ⟨rfl, rfl, hR9, rr9⟩
                    have e1 : takeC kf ps ws need n e L c r = ansC kf ps ws need e c ((hasE L c.saga c.step c.back).getD false) := by unfold takeC; rw [if_pos HE.out, HGD.out]
                    have e2 : takeL n L c r = L := by unfold takeL; rw [if_pos HE.out, HKL.out]
                    rw [e1, e2, HE.out]
                    exact ⟨_, results_rt rfl rfl rfl rr9 Tryd.underlying34 rfl info_cl, rfl, hPT8.rt hR9 hga HLO.out.2, hPA8.rt hR9 hgi, m, HMP.out, fun k h1 h2 => (hR9.below.block k (by omega)).trans ((hR8.below.block k (by omega)).trans ((k14.out.block k (Nat.lt_of_lt_of_le h1 HPT.out.size)).trans (HKO.out k h1 h2)))⟩
theorem Take_c {kf : Hs → List Int → Hs} {tg : Hs → Hs → Hs} {pf : Int → Hs → Hs} (hX : KeyH kf tg pf) {lo hi g : Nat} {n e : Int} {ps ws : List Hs} {need : Int} {L : List En} (c : Cl) (r : Bool) (w : World) (hT : Tables w) (hlo : 2 ≤ lo) (h : PartAt w lo hi g n e ps ws need L) :
    Calls Tryd.prog 13 #[.pointer (some ⟨g, 0, none⟩), .agg (rowA 41 (clF c)), .bool r] w fun ex w' => ex = .returned (.tuple #[.agg (rowA 41 (clF (takeC kf ps ws need n e L c r))), .bool (itsB n c)]) ∧ PT lo hi w w' ∧ PartAt w' lo hi g n e ps ws need (takeL n L c r) :=
  (Take_b hX c r w hT hlo h).mono fun _ _ ⟨h1, h2, h3, _⟩ => ⟨h1, h2, h3⟩
end Go.Proofs.YtchpmdcacpjojaaDoor
/- Keys, checkpoints and marks that are made: what is built, new slices of marks and appends onto them; a checkpoint in memory whose marks turn. -/
namespace Go.Proofs.YtchpmdcacpjojaaDoor
open Go Go.RowKit
set_option maxRecDepth 8000
set_option linter.all false
/-- A hash that begins with b, with zeros behind. -/
def oneH (b : UInt8) : Hs := fun i => bif Nat.blt i 1 then b else 0
/-- A value that is keys. -/
def svKeys (ps ws : List Hs) (need : Int) : SV NewT := ⟨fun v w => KeysV w v ps ws need, fun _ _ _ h hT => hT.keysV h⟩
/-- A slice of marks in a row from block B on. -/
def RdSB (B : Nat) (w : World) (v : Value) (l : List (Int × Hs)) : Prop := RdS w v l ∧ ∀ k, v.ownBlock = some k → B ≤ k
theorem RdSB.rt {B g : Nat} {w w' : World} {v : Value} {l : List (Int × Hs)} (h : RdSB B w v l) (hg : g < B) (hT : RT g w w') : RdSB B w' v l := by
  obtain ⟨⟨A, cap, hv, h1, h2, h3⟩, hb⟩ := h
  refine ⟨⟨A, cap, hv, h1, h2, fun h0 => ?_⟩, hb⟩
  obtain ⟨b, o, hA, hc⟩ := h3 h0
  have : B ≤ b := hb b (by rw [hv, hA]; rfl)
  exact ⟨b, o, hA, fun i x hx j hj => hT.keep.cell (by simp; omega) (hc i x hx j hj)⟩
theorem RdSB.new {B : Nat} {w w' : World} {v : Value} {l : List (Int × Hs)} (h : RdSB B w v l) (hT : NewT w w') : RdSB B w' v l := ⟨hT.sigs h.1, h.2⟩
/-- Marks in a new row, with no room behind them. -/
def svGB (B : Nat) (l : List (Int × Hs)) : SV NewT := ⟨fun v w => (∃ A, v = .slice A l.length l.length) ∧ RdSB B w v l, fun _ _ _ h hT => ⟨h.1, h.2.new hT⟩⟩
theorem svGB.f {B : Nat} {l : List (Int × Hs)} {v : Value} {w : World} (h : (svGB B l).pred v w) : (svGF l).pred v w := ⟨h.1, h.2.1⟩
/-- Hashes lie apart from a row that has no bytes. -/
theorem RdH.apart {w w' : World} {v : Value} {l : List Hs} {g n : Nat} {t : TypeId} {F : Nat → Value} (h : RdH w v l) (hr : w.rowIs g t n F) (hF : ∀ i z, F i ≠ .int .u8 z) (hT : RT g w w') : RdH w' v l := by
  obtain ⟨A, cap, hv, h1, h2, h3⟩ := h
  refine ⟨A, cap, hv, h1, h2, fun h0 => ?_⟩
  obtain ⟨b, o, hA, hc⟩ := h3 h0
  have hb : b ≠ g := by
    rintro rfl
    have hd := hc 0 _ (List.getElem?_eq_getElem h0) 0 (by omega)
    obtain ⟨c, hg, hs, hx⟩ := hr
    unfold World.cell? at hd
    simp only [hg, Option.isSome_none, Bool.false_eq_true, if_false] at hd
    have hlt : o + 0 * 32 + 0 < n := by rw [← hs]; exact (Array.getElem?_eq_some_iff.1 hd).1
    rw [hx _ hlt] at hd
    injection hd with hd
    exact hF _ _ hd
  exact ⟨b, o, hA, fun i d hd j hj => hT.keep.cell (by simpa using hb) (hc i d hd j hj)⟩
theorem keyF_no (A1 A2 : Option Addr) (n1 c1 n2 c2 : Nat) (n : Int) (i : Nat) (z : Int) : keyF (.slice A1 n1 c1) (.slice A2 n2 c2) n i ≠ .int .u8 z := by
  unfold keyF; split; simp; split <;> simp
theorem run_alloc_ky (w : World) : (Instr.alloc 24 true (.tuple #[])).run Tryd.prog w = .ok (.pointer (some ⟨w.heap.size, 0, none⟩)) (w.alloc (.cells (rowA 3 (keyF (.slice none 0 0) (.slice none 0 0) 0)) 24)) := by kernel_rfl
theorem run_bld_one (b : UInt8) (w : World) : (Instr.build 32 #[(0, .int .u8 (bN b))]).run Tryd.prog w = .ok (.agg (rowA 32 (bF (oneH b)))) w := by kernel_rfl
theorem run_bld_ky (A1 A2 : Option Addr) (n1 c1 n2 c2 : Nat) (n : Int) (w : World) : (Instr.build 24 #[(0, .slice A1 n1 c1), (1, .slice A2 n2 c2), (2, .int .i64 n)]).run Tryd.prog w = .ok (.agg (rowA 3 (keyF (.slice A1 n1 c1) (.slice A2 n2 c2) n))) w := by kernel_rfl
theorem run_bsH3 (d e f : Hs) (w : World) : (Instr.buildSlice 22 3 #[(0, .agg (rowA 32 (bF d))), (1, .agg (rowA 32 (bF e))), (2, .agg (rowA 32 (bF f)))]).run Tryd.prog w = .ok (.slice (some ⟨w.heap.size, 0, none⟩) 3 3) (w.alloc (.cells (rowA 96 fun i => bif Nat.blt i 32 then bF d i else bif Nat.blt i 64 then bF e (i - 32) else bF f (i - 64)) 32)) := by kernel_rfl
section
variable {a : Act} {w : World} {o : Oper} {K : Act → World → Prop} {Q : Exit → Act → World → Prop} {x y z : Operand}
theorem opr_bsH3 {d e f : Hs} (ho : o.op = .buildSlice 22 3 #[(0, x), (1, y), (2, z)]) (hx : a.eval x = .agg (rowA 32 (bF d))) (hy : a.eval y = .agg (rowA 32 (bF e))) (hz : a.eval z = .agg (rowA 32 (bF f))) (h : ∀ v w', NewT w w' → RdH w' v [d, e, f] → K (a.put o.dst v) w') : o.wp Tryd.prog a w K Q := by
  obtain ⟨dst, op, type, pos, after, guard⟩ := o
  simp only at ho
  subst ho
  refine opr_val (s := Instr.buildSlice 22 3 #[(0, a.eval x), (1, a.eval y), (2, a.eval z)]) (by simp [execOp]) (by rw [hx, hy, hz]; exact run_bsH3 d e f w) (h _ _ (NewT.alloc _ _) ?_)
  refine rdH_row (l := [d, e, f]) (rowIs_box w 32 96 _) (by simp) (by simp [maxLen]) fun i g he j hj => ?_
  have hi : i < 3 := (List.getElem?_eq_some_iff.1 he).1
  have b : ∀ n m : Nat, n < m → Nat.blt n m = true := fun n m h => by rw [Nat.blt_eq]; exact h
  have b' : ∀ n m : Nat, m ≤ n → Nat.blt n m = false := fun n m h => by rw [← Bool.not_eq_true, Nat.blt_eq]; omega
  have hi' : i = 0 ∨ i = 1 ∨ i = 2 := by omega
  rcases hi' with rfl | rfl | rfl
  · simp at he; subst he
    rw [b (0 * 32 + j) 32 (by omega), show 0 * 32 + j = j by omega]; rfl
  · simp at he; subst he
    rw [b' (1 * 32 + j) 32 (by omega), b (1 * 32 + j) 64 (by omega), show 1 * 32 + j - 32 = j by omega]; rfl
  · simp at he; subst he
    rw [b' (2 * 32 + j) 32 (by omega), b' (2 * 32 + j) 64 (by omega), show 2 * 32 + j - 64 = j by omega]; rfl
theorem opr_bldY {ps ws : List Hs} {n : Int} (ho : o.op = .build 24 #[(0, x), (1, y), (2, .const (.int .i64 n))]) (hx : RdH w (a.eval x) ps) (hy : RdH w (a.eval y) ws) (h : ∀ v, (svKeys ps ws n).pred v w → K (a.put o.dst v) w) : o.wp Tryd.prog a w K Q := by
  obtain ⟨dst, op, type, pos, after, guard⟩ := o
  simp only at ho
  subst ho
  obtain ⟨A1, c1, h1⟩ := rdH_form hx
  obtain ⟨A2, c2, h2⟩ := rdH_form hy
  exact opr_val (s := Instr.build 24 #[(0, a.eval x), (1, a.eval y), (2, .int .i64 n)]) (by simp [execOp, eval_const]) (by rw [h1, h2]; exact run_bld_ky _ _ _ _ _ _ _ w) (h _ ⟨_, _, rfl, h1 ▸ hx, h2 ▸ hy⟩)
end
end Go.Proofs.YtchpmdcacpjojaaDoor
/- Package part: New, Rotate; a nil participant. -/
namespace Go.Proofs.YtchpmdcacpjojaaDoor
open Go Go.RowKit
set_option maxRecDepth 8000
set_option linter.all false
def svHN (B : Nat) (l : List Hs) : SV NewT := ⟨fun v w => RdHI B w.heap.size w v l, fun _ _ _ h hT => ⟨hT.hs h.1, fun k hk => ⟨(h.2 k hk).1, Nat.lt_of_lt_of_le (h.2 k hk).2 hT.out.size⟩⟩⟩
set_option maxHeartbeats 400000 in
theorem CloneH_cv (B : Nat) (v : Value) (l : List Hs) (w : World) (hB0 : B ≤ w.heap.size) (h : RdH w v l) (hl : l.length ≤ 900000) : Cv 26 #[v] w (svHN B l) := by
  unfold Cv
  have hh := h
  obtain ⟨A, cap, rfl, h1, h2, h3⟩ := h
  have hq : ∀ (w : World) (a : Option Addr) (n c n' c' : Nat), (binOp .eql 22 (.slice a n c) (.slice none n' c')).run Tryd.prog w = .ok (.bool a.isNone) w := fun w a n c n' c' => Lib.run_eql_slice_nil w _ _ a n c n' c' Tryd.underlying22
  cases A with
  | none =>
    have h0 : l = [] := by
      cases l with
      | nil => rfl
      | cons b l => obtain ⟨_, _, h, _⟩ := h3 (by simp); cases h
    subst h0
    clear h3 hh
    go_enter Tryd.func26, Tryd.ntmps26
    go_wp2
    go_ret
    exact ⟨_, rfl, NewT.refl _, ⟨none, 0, rfl, Nat.le_refl _, by unfold maxLen; omega, fun h => absurd h (by simp)⟩, fun k hk => by cases hk⟩
  | some a =>
    have hN := NewT.alloc w (.cells #[] 32)
    have o0 : OwnH (w.alloc (.cells #[] 32)) w.heap.size (.slice (some ⟨w.heap.size, 0, none⟩) 0 0) [] :=
      ⟨rfl, .inr ⟨w.heap.size, 0, #[], rfl, Nat.le_refl _, World.alloc_heap_new _ _, Nat.le_refl _, by unfold maxLen; omega, rfl, rfl⟩⟩
    obtain ⟨v', w', hr, ho', hg⟩ := run_appH o0 (hN.hs hh) (by simp; omega) hN.out.size 22
    have hB : Below w.heap.size w w' := hN.out.grown hg hN.out.size (fun k e => by simp [Value.ownBlock] at e; omega)
    have Ho := Lib.hid ho'
    clear h3 hh hN o0 hg ho'
    go_enter Tryd.func26, Tryd.ntmps26
    go_upto_region 3 with fail
    refine wp_region_lit ?_
    iterate 2 (refine wpList_plain rfl (fun K hK => ?_); go_simp; refine hK _ _ ?_; clear hK K)
    refine wpList_plain rfl (fun K hK => ?_)
    refine opr_append rfl rfl rfl hr (hK _ _ ?_)
    clear hK K
    refine wpList_plain rfl (fun K hK => ?_)
    refine opr_move (.inr rfl) (hK _ _ ?_)
    clear hK K
    refine wpList_nil ?_
    go_simp
    go_wp2
    go_ret
    exact ⟨_, rfl, hB, Ho.out.rd, fun k hk => ⟨Nat.le_trans hB0 (Ho.out.lt k hk).1, (Ho.out.lt k hk).2⟩⟩
theorem svHN_st {B : Nat} {l : List Hs} {v : Value} {w w' : World} (h : (svHN B l).pred v w) (hT : NewT w w') : (svHN B l).pred v w' := ⟨hT.hs h.1, fun k hk => ⟨(h.2 k hk).1, Nat.lt_of_lt_of_le (h.2 k hk).2 hT.out.size⟩⟩
def svNk (W : World) : SV NewT := ⟨fun v w => ∃ g, v = .pointer (some ⟨g, 0, none⟩) ∧ W.heap.size ≤ g ∧ w.rowIs g 24 3 (keyF (.slice none 0 0) (.slice none 0 0) 0), fun _ _ _ ⟨g, h1, h2, h3⟩ hT => ⟨g, h1, h2, hT.row h3⟩⟩
def svKyN (B : Nat) (ps ws : List Hs) (need : Int) : SV NewT := ⟨fun v w => ∃ cp cw, v = .agg (rowA 3 (keyF cp cw need)) ∧ (svHN B ps).pred cp w ∧ (svHN B ws).pred cw w, fun _ _ _ ⟨cp, cw, h1, h2, h3⟩ hT => ⟨cp, cw, h1, svHN_st h2 hT, svHN_st h3 hT⟩⟩
def svMpN (B : Nat) : SV NewT := ⟨fun v w => ∃ m, v = .map (some m) ∧ B ≤ m ∧ MapAt w m [], fun _ _ _ ⟨m, h1, h2, h3⟩ hT => ⟨m, h1, h2, hT.mapAt h3⟩⟩
def svPyN (B : Nat) (n : Int) (cp cw : Value) (need : Int) : SV NewT := ⟨fun v w => ∃ m, v = .agg (rowA 6 (pyF n cp cw need 0 (.map (some m)))) ∧ B ≤ m ∧ MapAt w m [], fun _ _ _ ⟨m, h1, h2, h3⟩ hT => ⟨m, h1, h2, hT.mapAt h3⟩⟩
/-- A participant that was made, in blocks from B on. -/
def svPart (B : Nat) (n : Int) (ps ws : List Hs) (need : Int) : SV NewT := ⟨fun v w => ∃ g hi, v = .pointer (some ⟨g, 0, none⟩) ∧ PartAt w B hi g n 0 ps ws need [], fun _ _ _ ⟨g, hi, h1, h2⟩ hT => ⟨g, hi, h1, h2.new hT⟩⟩
theorem run_bld_py (n : Int) (A1 A2 : Option Addr) (n1 c1 n2 c2 : Nat) (need : Int) (m : Nat) (w : World) : (Instr.build 67 #[(0, .int .i64 n), (1, .agg (rowA 3 (keyF (.slice A1 n1 c1) (.slice A2 n2 c2) need))), (3, .map (some m))]).run Tryd.prog w = .ok (.agg (rowA 6 (pyF n (.slice A1 n1 c1) (.slice A2 n2 c2) need 0 (.map (some m))))) w := by kernel_rfl
section
variable {a : Act} {w : World} {o : Oper} {K : Act → World → Prop} {Q : Exit → Act → World → Prop} {x y z : Operand} {n need : Int} {cp cw : Value} {B : Nat} {ps ws : List Hs}
theorem opr_bldKn (ho : o.op = .build 24 #[(0, x), (1, y), (2, z)]) (hx : (svHN B ps).pred (a.eval x) w) (hy : (svHN B ws).pred (a.eval y) w) (hz : a.eval z = .int .i64 need) (h : ∀ v, (svKyN B ps ws need).pred v w → K (a.put o.dst v) w) : o.wp Tryd.prog a w K Q := by
  obtain ⟨dst, op, type, pos, after, guard⟩ := o
  simp only at ho
  subst ho
  obtain ⟨A1, c1, h1⟩ := rdH_form hx.1
  obtain ⟨A2, c2, h2⟩ := rdH_form hy.1
  exact opr_val (s := Instr.build 24 #[(0, a.eval x), (1, a.eval y), (2, a.eval z)]) (by simp [execOp]) (by rw [h1, h2, hz]; exact run_bld_ky _ _ _ _ _ _ _ w) (h _ ⟨_, _, rfl, h1 ▸ hx, h2 ▸ hy⟩)
theorem opr_bldPn {W : World} (ho : o.op = .build 67 #[(0, x), (1, y), (3, z)]) (hx : a.eval x = .int .i64 n) (hy : a.eval y = .agg (rowA 3 (keyF cp cw need))) (hz : (svMpN B).pred (a.eval z) w) (hcp : RdH W cp ps) (hcw : RdH W cw ws) (h : ∀ v, (svPyN B n cp cw need).pred v w → K (a.put o.dst v) w) : o.wp Tryd.prog a w K Q := by
  obtain ⟨dst, op, type, pos, after, guard⟩ := o
  simp only at ho
  subst ho
  obtain ⟨A1, c1, rfl⟩ := rdH_form hcp
  obtain ⟨A2, c2, rfl⟩ := rdH_form hcw
  obtain ⟨m, h1, h2, h3⟩ := hz
  exact opr_val (s := Instr.build 67 #[(0, a.eval x), (1, a.eval y), (3, a.eval z)]) (by simp [execOp]) (by rw [hx, hy, h1]; exact run_bld_py _ _ _ _ _ _ _ _ _ w) (h _ ⟨m, rfl, h2, h3⟩)
end
set_option maxHeartbeats 2000000 in
theorem New_cv (v : Value) (ps ws : List Hs) (need n : Int) (w : World) (hk : KeysV w v ps ws need) : Cv 11 #[v, .int .i64 n] w (if hasB ps ws need n 0 = true then svPart w.heap.size n ps ws need else .eq (.pointer none)) := by
  unfold Cv
  obtain ⟨pv, wv, rfl, hpv, hwv⟩ := hk
  have HLP : Hid (ps.length ≤ 9223372036854775807) := Lib.hid (by obtain ⟨_, _, _, h1, h2, _⟩ := hpv; unfold maxLen at h2; omega)
  have HPP := Lib.hid hpv
  have HWW := Lib.hid hwv
  clear hpv hwv
  go_enter Tryd.func11, Tryd.ntmps11
  go_upto_region 1 with fail
  have r_g1 := rowIs_box w 24 3 (keyF pv wv need)
  have hN : NewT w (w.alloc (.cells (rowA 3 (keyF pv wv need)) 24)) := NewT.alloc _ _
  change Code.wp _ _ _ _ (w.alloc (.cells (rowA 3 (keyF pv wv need)) 24))
  generalize (w.alloc (.cells (rowA 3 (keyF pv wv need)) 24)) = W0 at r_g1 hN ⊢
  obtain ⟨g1, h_g1⟩ : ∃ g_, w.heap.size = g_ := ⟨_, rfl⟩
  have HG : Hid (w.heap.size ≤ g1) := Lib.hid (by omega)
  rw [h_g1] at r_g1
  simp only [h_g1]
  have Rg1 := Lib.hid r_g1
  have HM := Lib.hid hN
  clear r_g1 hN h_g1
  have HK : Hid (KeysV W0 (.agg (rowA 3 (keyF pv wv need))) ps ws need) := Lib.hid ⟨pv, wv, rfl, HM.out.hs HPP.out, HM.out.hs HWW.out⟩
  have HP := Lib.hid (HM.out.hs HPP.out)
  have HW := Lib.hid (HM.out.hs HWW.out)
  go_upto_region 1 with fail
  obtain ⟨q1_1, Q1_1⟩ : ∃ bq_, ((!(mayB ps ws need)) || (!(inR n 0 ((List.length ps : Int) - 1)))) = bq_ := ⟨_, rfl⟩
  refine wp_region_steps0 NewT [SV.eq (.agg (rowA 3 (keyF pv wv need))), SV.eq (.bool (mayB ps ws need)), SV.eq (.bool (!(mayB ps ws need))), SV.eq (.bool (!(mayB ps ws need))), svIf ((!(!(mayB ps ws need)))) (SV.eq (.int .i64 (n))), svIf ((!(!(mayB ps ws need)))) (SV.eq (.pointer (some ⟨g1, 0, none⟩))), svIf ((!(!(mayB ps ws need)))) (SV.eq (pv)), svIf ((!(!(mayB ps ws need)))) (SV.eq (.int .i64 ((List.length (ps) : Int)))), svIf ((!(!(mayB ps ws need)))) (SV.eq (.int .i64 ((List.length ps : Int) - 1))), svIf ((!(!(mayB ps ws need)))) (SV.eq (.bool (inR n 0 ((List.length ps : Int) - 1)))), svIf ((!(!(mayB ps ws need)))) (SV.eq (.bool (!(inR n 0 ((List.length ps : Int) - 1))))), SV.eq (.bool (q1_1))] [([(2, none)], none), ([(6, some 0)], none), ([(7, some 1)], none), ([(8, some 2)], none), ([(1, none), (9, some 3)], some (9, false)), ([(2, none), (9, some 3)], some (9, false)), ([(11, some 5), (9, some 3)], some (9, false)), ([(12, some 6), (9, some 3)], some (9, false)), ([(13, some 7), (9, some 3)], some (9, false)), ([(10, some 4), (14, some 8), (9, some 3)], some (9, false)), ([(15, some 9), (9, some 3)], some (9, false)), ([(9, some 3), (16, some 10)], none)] 32 12 rfl rfl (by kernel_rfl) NewT.trans (NewT.refl _) (Nat.le_of_ble_eq_true rfl) ⟨?_, ?_, ?_, ?_, ?_, ?_, ?_, ?_, ?_, ?_, ?_, ?_, trivial⟩ ?_
  · exact fun a wx hT hF K hK => rely_wp rfl (opr_ldY (hT.row Rg1.out) rfl hF.1 (hK _ _ (NewT.refl _) rfl))
  · exact fun a wx hT hF K hK => rely_wp rfl (opr_cv (May_cv _ ps ws need wx (hT.keysV HK.out)) rfl Tryd.func24 (by kernel_rfl) (by kernel_rfl) (evs1 hF.1) hK)
  · exact fun a wx hT hF K hK => rely_wp rfl (opr_not rfl hF.1 (hK _ _ (NewT.refl _) rfl))
  · exact fun a wx hT hF K hK => rely_wp rfl (opr_move (.inl rfl) (hK _ _ (NewT.refl _) hF.1))
  · exact fun a wx hT hF K hK => rely_if (rely_gf hF.2.1) (NewT.refl _) hK fun hE hK => opr_move (.inl rfl) (hK _ _ (NewT.refl _) hF.1)
  · exact fun a wx hT hF K hK => rely_if (rely_gf hF.2.1) (NewT.refl _) hK fun hE hK => opr_fldY0 rfl hF.1 (hK _ _ (NewT.refl _) rfl)
  · exact fun a wx hT hF K hK => rely_if (rely_gf hF.2.1) (NewT.refl _) hK fun hE hK => opr_ldHs (hT.row Rg1.out) (by decide) rfl rfl (hF.1 hE) (hK _ _ (NewT.refl _) rfl)
  · intro a wx hT hF K hK
    obtain ⟨f12, f9, _⟩ := hF
    have f12 : ((!(!(mayB ps ws need)))) = true → a.tmps.getD 12 undef = pv := f12
    have f9 : a.tmps.getD 9 undef = .bool (!(mayB ps ws need)) := f9
    refine rely_if (rely_gf f9) (NewT.refl _) hK (fun hE hK => ?_)
    exact opr_len_h rfl (by rw [eval_tmp, (f12 hE)]; exact (hT.hs HP.out)) (hK _ _ (NewT.refl _) rfl)
  · exact fun a wx hT hF K hK => rely_if (rely_gf hF.2.1) (NewT.refl _) hK fun hE hK => opr_sub (r := (List.length ps : Int) - 1) Tryd.underlying3 (by have := HLP.out; unfold wrap64; omega) rfl (hF.1 hE) rfl (hK _ _ (NewT.refl _) rfl)
  · exact fun a wx hT hF K hK => rely_if (rely_gf hF.2.2.1) (NewT.refl _) hK fun hE hK => opr_cv (pWithin_cv n 0 ((List.length ps : Int) - 1) wx) rfl Tryd.func25 (by kernel_rfl) (by kernel_rfl) (evs3 (hF.1 hE) rfl (hF.2.1 hE)) hK
  · exact fun a wx hT hF K hK => rely_if (rely_gf hF.2.1) (NewT.refl _) hK fun hE hK => opr_not rfl (hF.1 hE) (hK _ _ (NewT.refl _) rfl)
  · exact fun a wx hT hF K hK => rely_wp rfl (opr_pick_b rfl hF.1 (fun hb => hK _ _ (NewT.refl _) (pn_or1 Q1_1 hb)) (fun hb => hK _ _ (NewT.refl _) (pn_or0 Q1_1 (hF.2.1 (bnot hb)) hb)))
  · intro w1 k1
    iterate 4 (intro u h; obtain rfl := Eq.symm (h (by simp)); clear h)
    iterate 7 (intro _ _)
    intro u h; obtain rfl := Eq.symm (h (by simp)); clear h
    subst Q1_1
    refine relyEnd_nil rfl ?_
    refine wpList_end rfl ?_
    simp only [Act.put, List.setIfInBounds_toArray, List.set_cons_zero, List.set_cons_succ]
    go_simp
    replace Rg1 := Lib.hid (k1.row Rg1.out)
    replace HM := Lib.hid (NewT.trans _ _ _ HM.out k1)
    clear k1
    cases hb : (((!(mayB ps ws need)) || (!(inR n 0 ((List.length ps : Int) - 1)))))
    · have hm : mayB ps ws need = true ∧ inR n 0 ((ps.length : Int) - 1) = true := by
        simp only [Bool.or_eq_false_iff, Bool.not_eq_false'] at hb; exact hb
      have HK0 : Hid (hasB ps ws need n 0 = true) := Lib.hid (by unfold hasB; rw [hm.1, hm.2]; rfl)
      have hl := (mayB_iff _ _ _).1 hm.1
      have HLL : Hid (ps.length ≤ 900000 ∧ ws.length ≤ 900000) := Lib.hid (by omega)
      clear hm hb hl
      have HP2 := Lib.hid (HM.out.hs HPP.out)
      have HW2 := Lib.hid (HM.out.hs HWW.out)
      clear HP HW HK
      go_upto_region 3 with fail
      refine wp_region_rely (NewT) [SV.eq (.pointer (some ⟨g1, 0, none⟩)), SV.eq (pv), svHN w.heap.size ps, SV.eq (.pointer (some ⟨g1, 1, none⟩)), SV.eq (wv), svHN w.heap.size ws, SV.eq (.pointer (some ⟨g1, 2, none⟩)), SV.eq (.int .i64 (need)), svKyN w.heap.size ps ws need, svNk w1] [([(2, none)], none), ([(18, some 0)], none), ([(19, some 1)], none), ([(2, none)], none), ([(21, some 3)], none), ([(22, some 4)], none), ([(2, none)], none), ([(24, some 6)], none), ([(20, some 2), (23, some 5), (25, some 7)], none), ([], none)] 32 rfl (by kernel_rfl) rfl (by kernel_rfl) (by kernel_rfl) rfl NewT.trans (NewT.drew _) (Nat.le_of_ble_eq_true rfl) ⟨?_, ?_, ?_, ?_, ?_, ?_, ?_, ?_, ?_, ?_, trivial⟩ ?_
      · exact fun a wx hT hF K hK => rely_wp rfl (opr_fldY0 rfl hF.1 (hK _ _ (NewT.refl _) rfl))
      · exact fun a wx hT hF K hK => rely_wp rfl (opr_ldHs (hT.row Rg1.out) (by decide) rfl rfl hF.1 (hK _ _ (NewT.refl _) rfl))
      · exact fun a wx hT hF K hK => rely_wp rfl (opr_cv (CloneH_cv w.heap.size _ ps wx (Nat.le_trans HM.out.out.size hT.out.size) (hT.hs HP2.out) HLL.out.1) rfl Tryd.func26 (by kernel_rfl) (by kernel_rfl) (evs1 hF.1) hK)
      · exact fun a wx hT hF K hK => rely_wp rfl (opr_fldY1 rfl hF.1 (hK _ _ (NewT.refl _) rfl))
      · exact fun a wx hT hF K hK => rely_wp rfl (opr_ldHs (hT.row Rg1.out) (by decide) rfl rfl hF.1 (hK _ _ (NewT.refl _) rfl))
      · exact fun a wx hT hF K hK => rely_wp rfl (opr_cv (CloneH_cv w.heap.size _ ws wx (Nat.le_trans HM.out.out.size hT.out.size) (hT.hs HW2.out) HLL.out.2) rfl Tryd.func26 (by kernel_rfl) (by kernel_rfl) (evs1 hF.1) hK)
      · exact fun a wx hT hF K hK => rely_wp rfl (opr_fldY2 rfl hF.1 (hK _ _ (NewT.refl _) rfl))
      · exact fun a wx hT hF K hK => rely_wp rfl (opr_ldI (hT.row Rg1.out) (by decide) rfl rfl hF.1 (hK _ _ (NewT.refl _) rfl))
      · exact fun a wx hT hF K hK => rely_wp rfl (opr_bldKn rfl hF.1 hF.2.1 hF.2.2.1 (fun u hu => hK u _ (NewT.refl _) hu))
      · exact fun a wx hT hF K hK => rely_wp rfl (opr_allocV rfl run_alloc_ky (hK _ _ (NewT.alloc _ _) ⟨wx.heap.size, rfl, hT.out.size, rowIs_box wx _ 3 _⟩))
      · intro w2 k2
        iterate 2 (intro u h; obtain rfl := Eq.symm (h (by simp)); clear h)
        intro _ _
        iterate 2 (intro u h; obtain rfl := Eq.symm (h (by simp)); clear h)
        intro _ _
        iterate 2 (intro u h; obtain rfl := Eq.symm (h (by simp)); clear h)
        intro u26 h; have g26 := h (by simp); clear h; replace g26 := show (svKyN w.heap.size ps ws need).pred u26 w2 from g26
        intro u5 h; have g5 := h (by simp); clear h; replace g5 := show (svNk w1).pred u5 w2 from g5
        refine relyEnd_nil rfl ?_
        simp only [Act.put, List.setIfInBounds_toArray, List.set_cons_zero, List.set_cons_succ]
        obtain ⟨g5, hv5, hp5, hr5⟩ := g5
        subst hv5
        obtain ⟨cp, cw, hv26, hcp, hcw⟩ := g26
        subst hv26
        have hno := keyF_no none none 0 0 0 0 0
        refine opr_putm (g := g5) (o0 := 0) (m := 3) (f := keyF cp cw need) (F := keyF cp cw need) rfl rfl rfl hr5 (by decide) info_ky (keyF_one hcp.1 hcw.1) (put_allN _ _ _) ?_
        intro W5 hR5 rr5
        go_simp
        have hcp5 : RdHI w.heap.size W5.heap.size W5 cp ps := ⟨hcp.1.apart hr5 hno hR5, fun k hk => ⟨(hcp.2 k hk).1, Nat.lt_of_lt_of_le (hcp.2 k hk).2 hR5.size⟩⟩
        have hcw5 : RdHI w.heap.size W5.heap.size W5 cw ws := ⟨hcw.1.apart hr5 hno hR5, fun k hk => ⟨(hcw.2 k hk).1, Nat.lt_of_lt_of_le (hcw.2 k hk).2 hR5.size⟩⟩
        have hM5 : NewT w W5 := NewT.rt (NewT.trans _ _ _ HM.out k2) hR5 (Nat.le_trans HM.out.out.size hp5)
        have HCP := Lib.hid hcp5
        have HCW := Lib.hid hcw5
        have Rg5 := Lib.hid rr5
        have HM5 := Lib.hid hM5
        clear hcp hcw hcp5 hcw5 hno hr5 rr5 hR5 hM5 k2 hp5 HP2 HW2 Rg1 HM HG
        go_upto_region 4 with fail
        refine wp_region_steps0 NewT [SV.eq (.int .i64 (n)), SV.eq (.agg (rowA 3 (keyF cp cw need))), svMpN w.heap.size, svPyN w.heap.size n cp cw need, svPart w.heap.size n ps ws need, svPart w.heap.size n ps ws need] [([(1, none)], none), ([(5, none)], none), ([], none), ([(27, some 0), (28, some 1), (29, some 2)], none), ([(30, some 3)], none), ([(31, some 4)], none)] 32 6 rfl rfl (by kernel_rfl) NewT.trans (NewT.refl _) (Nat.le_of_ble_eq_true rfl) ⟨?_, ?_, ?_, ?_, ?_, ?_, trivial⟩ ?_
        · exact fun a wx hT hF K hK => rely_wp rfl (opr_move (.inl rfl) (hK _ _ (NewT.refl _) hF.1))
        · exact fun a wx hT hF K hK => rely_wp rfl (opr_ldY (hT.row Rg5.out) rfl hF.1 (hK _ _ (NewT.refl _) rfl))
        · exact fun a wx hT hF K hK => rely_wp rfl (opr_mkMapD rfl (fun w' hN hm => hK _ _ hN ⟨wx.heap.size, rfl, Nat.le_trans (HM5.out.out.size) hT.out.size, hm⟩))
        · exact fun a wx hT hF K hK => rely_wp rfl (opr_bldPn rfl hF.1 hF.2.1 hF.2.2.1 (hcp := HCP.out.1) (hcw := HCW.out.1) (fun u hu => hK u _ (NewT.refl _) hu))
        · intro a wx hT hF K hK
          obtain ⟨f30, _⟩ := hF
          replace f30 := show (svPyN w.heap.size n cp cw need).pred (a.tmps.getD 30 undef) wx from f30
          refine rely_wp rfl ?_
          obtain ⟨m, hv30, hm1, hm2⟩ := f30
          refine opr_boxD rfl hv30 (fun w' hN hr => hK _ _ hN ?_)
          have h1 := hT.out.size
          have h2 := hN.out.size
          have h3 := hm2.lt
          refine ⟨wx.heap.size, w'.heap.size, rfl, m, cp, cw, hr, hN.mapAt hm2, ?_, ?_, hm1, h3, ?_, Nat.le_refl _⟩
          · exact ⟨hN.hs (hT.hs HCP.out.1), fun k hk => ⟨(HCP.out.2 k hk).1, by have := (HCP.out.2 k hk).2; omega⟩⟩
          · exact ⟨hN.hs (hT.hs HCW.out.1), fun k hk => ⟨(HCW.out.2 k hk).1, by have := (HCW.out.2 k hk).2; omega⟩⟩
          · exact hr.lt
        · exact fun a wx hT hF K hK => rely_wp rfl (opr_move (.inr rfl) (hK _ _ (NewT.refl _) hF.1))
        · intro w3 k3
          iterate 2 (intro u h; obtain rfl := Eq.symm (h (by simp)); clear h)
          iterate 3 (intro _ _)
          intro u4 h; have g4 := h (by simp); clear h; replace g4 := show (svPart w.heap.size n ps ws need).pred u4 w3 from g4
          refine relyEnd_nil rfl ?_
          refine wpList_end rfl ?_
          simp only [Act.put, List.setIfInBounds_toArray, List.set_cons_zero, List.set_cons_succ]
          go_simp
          have HF := Lib.hid (NewT.trans _ _ _ HM5.out k3)
          go_wp2
          go_ret
          exact ⟨_, rfl, HF.out, g4⟩
    · have HK0 : Hid (¬ hasB ps ws need n 0 = true) := Lib.hid (by
        simp only [Bool.or_eq_true, Bool.not_eq_true'] at hb
        unfold hasB
        rcases hb with hb | hb <;> rw [hb] <;> simp)
      clear hb
      go_wp2
      go_ret
      exact ⟨_, rfl, HM.out, rfl⟩
def rotE (e : Int) : Int := if e = 400 then e else e + 1
set_option maxHeartbeats 1000000 in
theorem Rotate_c {lo hi g : Nat} {n e : Int} {ps ws : List Hs} {need : Int} {L : List En} (w : World) (he : 0 ≤ e ∧ e ≤ 400) (h : PartAt w lo hi g n e ps ws need L) :
    Calls Tryd.prog 14 #[.pointer (some ⟨g, 0, none⟩)] w fun ex w' => ex = .returned (.bool (e != 400)) ∧ PT lo hi w w' ∧ PartAt w' lo hi g n (rotE e) ps ws need L := by
  have HPA := Lib.hid h
  obtain ⟨m, pv, wv, hr, hmp, hp, hw, hl⟩ := h
  have HMP := Lib.hid hmp
  have HPI := Lib.hid hp
  have HWI := Lib.hid hw
  have HML := Lib.hid hl
  have HEB := Lib.hid he
  clear hmp hp hw hl he
  go_enter Tryd.func14, Tryd.ntmps14
  have Rg := Lib.hid hr
  have HM := Lib.hid (NewT.refl w)
  clear hr
  go_upto_region 1 with fail
  refine wp_region_steps0 NewT [SV.eq (.pointer (some ⟨g, 0, none⟩)), SV.eq (.bool false), SV.eq (.bool false), SV.eq (.pointer (some ⟨g, 0, none⟩)), SV.eq (.pointer (some ⟨g, 0, none⟩)), SV.eq (.pointer (some ⟨g, 4, none⟩)), SV.eq (.int .i64 (e)), SV.eq (.bool (e == 400)), SV.eq (.bool (e == 400))] [([(0, none)], none), ([(3, some 0)], none), ([(4, some 1)], none), ([(0, none), (5, some 2)], some (5, false)), ([(6, some 3), (5, some 2)], some (5, false)), ([(7, some 4), (5, some 2)], some (5, false)), ([(8, some 5), (5, some 2)], some (5, false)), ([(9, some 6), (5, some 2)], some (5, false)), ([(5, some 2), (10, some 7)], none)] 19 9 rfl rfl (by kernel_rfl) NewT.trans (NewT.refl _) (Nat.le_of_ble_eq_true rfl) ⟨?_, ?_, ?_, ?_, ?_, ?_, ?_, ?_, ?_, trivial⟩ ?_
  · exact fun a wx hT hF K hK => rely_wp rfl (opr_move (.inl rfl) (hK _ _ (NewT.refl _) hF.1))
  · exact fun a wx hT hF K hK => rely_wp rfl (opr_eqPn rfl hF.1 (hK _ _ (NewT.refl _) rfl))
  · exact fun a wx hT hF K hK => rely_wp rfl (opr_move (.inl rfl) (hK _ _ (NewT.refl _) hF.1))
  · exact fun a wx hT hF K hK => rely_wp (rely_guard hF.2.1) (opr_move (.inl rfl) (hK _ _ (NewT.refl _) hF.1))
  · exact fun a wx hT hF K hK => rely_wp (rely_guard hF.2.1) (opr_nilc rfl hF.1 (hK _ _ (NewT.refl _) rfl))
  · exact fun a wx hT hF K hK => rely_wp (rely_guard hF.2.1) (opr_fldPy2 rfl hF.1 (hK _ _ (NewT.refl _) rfl))
  · exact fun a wx hT hF K hK => rely_wp (rely_guard hF.2.1) (opr_ldI (hT.row Rg.out) (by decide) rfl rfl hF.1 (hK _ _ (NewT.refl _) rfl))
  · exact fun a wx hT hF K hK => rely_wp (rely_guard hF.2.1) (opr_cmp (b := e == 400) (.inl ⟨rfl, rfl⟩) Tryd.underlying3 rfl hF.1 rfl (hK _ _ (NewT.refl _) rfl))
  · exact fun a wx hT hF K hK => rely_wp rfl (opr_pick_false rfl hF.1 (hK _ _ (NewT.refl _) hF.2.1))
  · intro w1 k1
    iterate 9 (intro u h; obtain rfl := Eq.symm (h (by simp)); clear h)
    refine relyEnd_nil rfl ?_
    refine wpList_end rfl ?_
    simp only [Act.put, List.setIfInBounds_toArray, List.set_cons_zero, List.set_cons_succ]
    go_simp
    replace Rg := Lib.hid (k1.row Rg.out)
    replace HM := Lib.hid (NewT.trans _ _ _ HM.out k1)
    clear k1
    cases hb : (e == 400)
    · have HE : Hid (e ≠ 400) := Lib.hid (by simpa using hb)
      clear hb
      go_upto_region 3 with fail
      refine wp_region_steps0 NewT [SV.eq (.pointer (some ⟨g, 0, none⟩)), SV.eq (.pointer (some ⟨g, 0, none⟩)), SV.eq (.pointer (some ⟨g, 4, none⟩)), SV.eq (.int .i64 (e)), SV.eq (.int .i64 (e + 1)), SV.eq (.pointer (some ⟨g, 0, none⟩)), SV.eq (.pointer (some ⟨g, 4, none⟩))] [([(0, none)], none), ([(12, some 0)], none), ([(13, some 1)], none), ([(14, some 2)], none), ([(15, some 3)], none), ([(12, some 0)], none), ([(17, some 5)], none)] 19 7 rfl rfl (by kernel_rfl) NewT.trans (NewT.refl _) (Nat.le_of_ble_eq_true rfl) ⟨?_, ?_, ?_, ?_, ?_, ?_, ?_, trivial⟩ ?_
      · exact fun a wx hT hF K hK => rely_wp rfl (opr_move (.inl rfl) (hK _ _ (NewT.refl _) hF.1))
      · exact fun a wx hT hF K hK => rely_wp rfl (opr_nilc rfl hF.1 (hK _ _ (NewT.refl _) rfl))
      · exact fun a wx hT hF K hK => rely_wp rfl (opr_fldPy2 rfl hF.1 (hK _ _ (NewT.refl _) rfl))
      · exact fun a wx hT hF K hK => rely_wp rfl (opr_ldI (hT.row Rg.out) (by decide) rfl rfl hF.1 (hK _ _ (NewT.refl _) rfl))
      · exact fun a wx hT hF K hK => rely_wp rfl (opr_add (r := e + 1) Tryd.underlying3 (by have := HEB.out; unfold wrap64; omega) rfl hF.1 rfl (hK _ _ (NewT.refl _) rfl))
      · exact fun a wx hT hF K hK => rely_wp rfl (opr_nilc rfl hF.1 (hK _ _ (NewT.refl _) rfl))
      · exact fun a wx hT hF K hK => rely_wp rfl (opr_fldPy2 rfl hF.1 (hK _ _ (NewT.refl _) rfl))
      · intro w2 k2
        iterate 7 (intro u h; obtain rfl := Eq.symm (h (by simp)); clear h)
        refine relyEnd_nil rfl ?_
        simp only [Act.put, List.setIfInBounds_toArray, List.set_cons_zero, List.set_cons_succ]
        refine wpList_plain rfl (fun K hK => ?_)
        refine opr_put1B (v := .int .i64 (e + 1)) (F := pyF n pv wv need (e + 1) (.map (some m))) rfl rfl rfl (k2.row Rg.out) (by decide) info_i1 rfl (py_e n pv wv need e (e + 1) _) ?_
        intro W5 hR5 hR5b rr5
        refine hK _ _ ?_
        clear hK K
        refine wpList_end rfl ?_
        simp only [Act.put, List.setIfInBounds_toArray, List.set_cons_zero, List.set_cons_succ]
        go_simp
        have HF : Hid (PT lo hi w W5 ∧ PartAt W5 lo hi g n (e + 1) ps ws need L) := Lib.hid (by
          obtain ⟨l1, l2, l3, l4⟩ := HML.out
          have hk := (NewT.trans _ _ _ HM.out k2)
          refine ⟨⟨(hk.out.mono (by omega)).trans (hR5.below.mono (by omega)), fun k h1 h2 => ?_⟩, m, pv, wv, rr5, ?_, ?_, ?_, l1, l2, l3, ?_⟩
          · exact (hR5b k (by omega)).trans (hk.out.block k h1)
          · exact (hR5.below.block m l2).trans (hk.mapAt HMP.out)
          · exact HPI.out.of fun k h1 h2 _ => (hR5.below.block k h2).trans (hk.out.block k (by omega))
          · exact HWI.out.of fun k h1 h2 _ => (hR5.below.block k h2).trans (hk.out.block k (by omega))
          · exact Nat.le_trans l4 (Nat.le_trans hk.out.size hR5.size))
        clear hR5 hR5b rr5 k2
        go_wp2
        go_ret
        exact ⟨by rw [show (e != 400) = true by simpa using HE.out]; rfl, HF.out.1, by rw [show rotE e = e + 1 by unfold rotE; rw [if_neg HE.out]]; exact HF.out.2⟩
    · have HE : Hid (e = 400) := Lib.hid (by simpa using hb)
      clear hb
      have hl := HPA.out.lt
      go_wp2
      go_ret
      exact ⟨by rw [HE.out]; rfl, PT.new HM.out (by omega), by rw [show rotE e = e by unfold rotE; rw [if_pos HE.out]]; exact HPA.out.new HM.out⟩
set_option maxHeartbeats 1000000 in
theorem Rotate_nil (w : World) : Cv 14 #[.pointer none] w (.eq (.bool false)) := by
  unfold Cv
  go_enter Tryd.func14, Tryd.ntmps14
  go_wp2
  go_ret
  exact ⟨_, rfl, NewT.refl _, rfl⟩
set_option maxHeartbeats 1000000 in
theorem Epoch_nil (w : World) : Cv 15 #[.pointer none] w (.eq (.int .i64 0)) := by
  unfold Cv
  go_enter Tryd.func15, Tryd.ntmps15
  go_wp2
  go_ret
  exact ⟨_, rfl, NewT.refl _, rfl⟩
set_option maxHeartbeats 1000000 in
theorem Entries_nil (w : World) : Cv 16 #[.pointer none] w (.eq ((.slice none 0 0))) := by
  unfold Cv
  go_enter Tryd.func16, Tryd.ntmps16
  go_wp2
  go_ret
  exact ⟨_, rfl, NewT.refl _, rfl⟩
set_option maxHeartbeats 1000000 in
theorem Take_nil (c : Cl) (r : Bool) (w : World) : Cv 13 #[.pointer none, .agg (rowA 41 (clF c)), .bool r] w (.eq (.tuple #[.agg (rowA 41 (clF zC)), .bool false])) := by
  unfold Cv
  have hmf : ∀ (fn : Fn) (first cap : Array Value) (w : World), (Instr.makeFunc fn first cap).run Tryd.prog w = .ok (.func fn first cap) w := fun _ _ _ _ => rfl
  go_enter_defers Tryd.func13, Tryd.ntmps13
  go_upto_region 1 with fail
  have r_gp := ((rowIs_box w 28 1 (fun _ => .pointer none)).alloc (.cells (rowA 41 (clF c)) 34)).alloc (.cells (rowA 41 (clF zC)) 34)
  have r_gc := (rowIs_box (w.alloc (.cells (rowA 1 (fun _ => .pointer none)) 28)) 34 41 (clF c)).alloc (.cells (rowA 41 (clF zC)) 34)
  rw [World.size_alloc] at r_gc
  have r_ga := rowIs_box ((w.alloc (.cells (rowA 1 (fun _ => .pointer none)) 28)).alloc (.cells (rowA 41 (clF c)) 34)) 34 41 (clF zC)
  rw [World.size_alloc, World.size_alloc] at r_ga
  have hN : NewT w (((w.alloc (.cells (rowA 1 (fun _ => .pointer none)) 28)).alloc (.cells (rowA 41 (clF c)) 34)).alloc (.cells (rowA 41 (clF zC)) 34)) := (NewT.trans _ _ _ ((NewT.trans _ _ _ (NewT.alloc _ _) (NewT.alloc _ _))) (NewT.alloc _ _))
  change Code.wp _ _ _ _ (((w.alloc (.cells (rowA 1 (fun _ => .pointer none)) 28)).alloc (.cells (rowA 41 (clF c)) 34)).alloc (.cells (rowA 41 (clF zC)) 34))
  generalize (((w.alloc (.cells (rowA 1 (fun _ => .pointer none)) 28)).alloc (.cells (rowA 41 (clF c)) 34)).alloc (.cells (rowA 41 (clF zC)) 34)) = W0 at r_gp r_gc r_ga hN ⊢
  obtain ⟨gp, h_gp⟩ : ∃ g_, w.heap.size = g_ := ⟨_, rfl⟩
  obtain ⟨gc, h_gc⟩ : ∃ g_, w.heap.size + 1 = g_ := ⟨_, rfl⟩
  obtain ⟨ga, h_ga⟩ : ∃ g_, w.heap.size + 1 + 1 = g_ := ⟨_, rfl⟩
  have HG : Hid (w.heap.size ≤ gp ∧ gp < gc ∧ gc < ga) := Lib.hid (by omega)
  rw [h_gp] at r_gp
  rw [h_gc] at r_gc
  rw [h_ga] at r_ga
  try rw [h_ga]
  try rw [h_gc]
  simp only [h_gp]
  have Rgp := Lib.hid r_gp
  have Rgc := Lib.hid r_gc
  have Rga := Lib.hid r_ga
  have HM := Lib.hid hN
  clear r_gp r_gc r_ga hN h_gp h_gc h_ga
  go_upto_region 1 with fail
  refine wp_region_steps0 NewT [SV.eq (.pointer none), SV.eq (.bool true), SV.eq (.bool true), SV.eq (undef), SV.eq (undef), SV.eq (undef), SV.eq (undef), SV.eq (.bool true)] [([(3, none)], none), ([(13, some 0)], none), ([(14, some 1)], none), ([(3, none), (15, some 2)], some (15, false)), ([(4, none), (15, some 2)], some (15, false)), ([(16, some 3), (17, some 4), (15, some 2)], some (15, false)), ([(18, some 5), (15, some 2)], some (15, false)), ([(15, some 2), (19, some 6)], none)] 88 8 rfl rfl (by kernel_rfl) NewT.trans (NewT.refl _) (Nat.le_of_ble_eq_true rfl) ⟨?_, ?_, ?_, ?_, ?_, ?_, ?_, ?_, trivial⟩ ?_
  · exact fun a wx hT hF K hK => rely_wp rfl (opr_ldPp (hT.row Rgp.out) (by decide) rfl rfl hF.1 (hK _ _ (NewT.refl _) rfl))
  · exact fun a wx hT hF K hK => rely_wp rfl (opr_eqPz rfl hF.1 (hK _ _ (NewT.refl _) rfl))
  · exact fun a wx hT hF K hK => rely_wp rfl (opr_move (.inl rfl) (hK _ _ (NewT.refl _) hF.1))
  · exact fun a wx hT hF K hK => rely_skip (rely_guard_no hF.2.1 (by decide)) (hK _ _ (NewT.refl _) rfl)
  · exact fun a wx hT hF K hK => rely_skip (rely_guard_no hF.2.1 (by decide)) (hK _ _ (NewT.refl _) rfl)
  · exact fun a wx hT hF K hK => rely_skip (rely_guard_no hF.2.2.1 (by decide)) (hK _ _ (NewT.refl _) rfl)
  · exact fun a wx hT hF K hK => rely_skip (rely_guard_no hF.2.1 (by decide)) (hK _ _ (NewT.refl _) rfl)
  · exact fun a wx hT hF K hK => rely_wp rfl (opr_pick_true rfl hF.1 (hK _ _ (NewT.refl _) rfl))
  · intro w1 k1
    iterate 8 (intro u h; obtain rfl := Eq.symm (h (by simp)); clear h)
    refine relyEnd_nil rfl ?_
    refine wpList_end rfl ?_
    simp only [Act.put, List.setIfInBounds_toArray, List.set_cons_zero, List.set_cons_succ]
    go_simp
    replace Rgp := Lib.hid (k1.row Rgp.out)
    replace Rgc := Lib.hid (k1.row Rgc.out)
    replace Rga := Lib.hid (k1.row Rga.out)
    replace HM := Lib.hid (NewT.trans _ _ _ HM.out k1)
    clear k1
    go_upto_region 2 with fail
    refine wp_region_steps0 NewT [SV.eq ((.agg (rowA 41 (clF zC))))] [([], none)] 88 1 rfl rfl (by kernel_rfl) NewT.trans (NewT.refl _) (Nat.le_of_ble_eq_true rfl) ⟨?_, trivial⟩ ?_
    · intro a wx hT hF K hK
      refine rely_wp rfl ?_
      exact opr_build (pv := #[]) rfl (by simp only [List.map_toArray, List.map_cons, List.map_nil, eval_tmp, eval_const]) (build_cl0 wx) (hK _ _ (NewT.refl _) rfl)
    · intro w2 k2
      intro u h; obtain rfl := Eq.symm (h (by simp)); clear h
      refine relyEnd_nil rfl ?_
      simp only [Act.put, List.setIfInBounds_toArray, List.set_cons_zero, List.set_cons_succ]
      refine wpList_plain rfl (fun K hK => ?_)
      refine opr_putm (g := ga) (o0 := 0) (m := 41) (f := clF zC) (F := clF zC) rfl rfl rfl (k2.row Rga.out) (by decide) info_cl (clF_one _) (put_allN _ _ _) ?_
      intro W2 hR2 rr2
      refine hK _ _ ?_
      clear hK K
      simp only [Act.put, List.setIfInBounds_toArray, List.set_cons_zero, List.set_cons_succ]
      refine wpList_plain rfl (fun K hK => ?_)
      refine opr_move (.inr rfl) (hK _ _ ?_)
      clear hK K
      refine wpList_end rfl ?_
      simp only [Act.put, List.setIfInBounds_toArray, List.set_cons_zero, List.set_cons_succ]
      go_simp
      replace Rga := Lib.hid rr2
      replace Rgp := Lib.hid (hR2.row (by have h_0 := HG.out; omega) (k2.row Rgp.out))
      replace Rgc := Lib.hid (hR2.row (by have h_0 := HG.out; omega) (k2.row Rgc.out))
      replace HM := Lib.hid (NewT.rt (NewT.trans _ _ _ HM.out k2) hR2 (by have h_0 := HG.out; omega))
      clear k2 hR2 rr2
      go_wp2
      exact ⟨_, results_rt rfl rfl rfl Rga.out Tryd.underlying34 rfl info_cl, _, rfl, HM.out, rfl⟩
end Go.Proofs.YtchpmdcacpjojaaDoor
/- A map of deeds ranged over; rows of entries made. -/
namespace Go.Proofs.YtchpmdcacpjojaaDoor
open Go Go.RowKit
set_option maxRecDepth 8000
set_option linter.all false
open Go.ChangeMaps (setBlock)
/-- Block r ranges over the map in block m; 'seen': whose entries have come. -/
def ItAt (w : World) (r m : Nat) (L : List En) (seen : Array Nat) : Prop := w.heap[r]? = some (.mapIter (some m) L.length seen L.length)
theorem ItAt.lt {w : World} {r m : Nat} {L : List En} {seen : Array Nat} (h : ItAt w r m L seen) : r < w.heap.size := (Array.getElem?_eq_some_iff.1 h).1
theorem entsM_hold (L : List En) : ∀ x ∈ (entsM 0 L).toArray.toList, x.born < L.length := fun x hx => by
  obtain ⟨i, e, hi, rfl⟩ := entsM_mem (by simpa using hx)
  have := (List.getElem?_eq_some_iff.1 hi).1
  simp [entM]; omega
theorem entsM_nodup (L : List En) : ((entsM 0 L).toArray.toList.map (·.born)).Nodup := by
  rw [show (entsM 0 L).toArray.toList = entsM 0 L by simp, entsM_born]
  exact List.nodup_range'
theorem left_none {L : List En} {seen : Array Nat} (h : (leftOf (entsM 0 L).toArray seen).size = 0) : ∀ i, i < L.length → i ∈ seen.toList := fun i hi => by
  have h0 : leftOf (entsM 0 L).toArray seen = #[] := Array.eq_empty_of_size_eq_zero h
  unfold leftOf at h0
  rw [Array.filter_eq_empty_iff] at h0
  have hm : entM (0 + i) L[i] ∈ (entsM 0 L).toArray := by
    rw [← Array.mem_toList_iff]
    exact List.mem_of_getElem? (by simpa using entsM_at 0 L i _ (List.getElem?_eq_getElem hi))
  have := h0 _ hm
  simpa [entM] using this
theorem left_some {L : List En} {seen : Array Nat} {e : MapEntry} (h : e ∈ (leftOf (entsM 0 L).toArray seen).toList) : ∃ i x, L[i]? = some x ∧ e = entM i x ∧ i ∉ seen.toList := by
  unfold leftOf at h
  simp only [Array.toList_filter, List.mem_filter] at h
  obtain ⟨i, x, hi, rfl⟩ := entsM_mem h.1
  rw [Nat.zero_add] at h ⊢
  refine ⟨i, x, hi, rfl, ?_⟩
  have := h.2
  simpa [entM] using this
theorem new_iter (W : World) (r : Nat) (o : Obj) : Below r W (setBlock W r o) ∧ ∀ k, k ≠ r → (setBlock W r o).heap[k]? = W.heap[k]? :=
  ⟨⟨rfl, rfl, rfl, by simp [setBlock], fun k hk => by simp only [setBlock, Array.getElem?_setIfInBounds_ne (show r ≠ k by omega)]⟩, fun k hk => by simp only [setBlock, Array.getElem?_setIfInBounds_ne (Ne.symm hk)]⟩
section
variable {a : Act} {w : World} {o : Oper} {K : Act → World → Prop} {Q : Exit → Act → World → Prop} {x y : Operand} {m r : Nat} {L : List En}
theorem opr_rangeM (ho : o.op = .range 65 x) (hx : a.eval x = .map (some m)) (hm : MapAt w m L) (h : ∀ w', NewT w w' → ItAt w' w.heap.size m L #[] → K (a.put o.dst (.pointer (some ⟨w.heap.size, 0, none⟩))) w') : o.wp Tryd.prog a w K Q := by
  obtain ⟨dst, op, type, pos, after, guard⟩ := o
  simp only at ho
  subst ho
  refine opr_val (s := Instr.range 65 (a.eval x)) (by simp [execOp]) ?_ (h _ (NewT.alloc w (.mapIter (some m) L.length #[] L.length)) (World.alloc_heap_new _ _))
  rw [hx]
  exact run_range_map w 65 71 73 m _ _ Tryd.underlying65 hm
theorem opr_nextM {seen : Array Nat} (ho : o.op = .next x false) (hx : a.eval x = .pointer (some ⟨r, 0, none⟩)) (hm : MapAt w m L) (hr : ItAt w r m L seen)
    (h0 : (∀ i, i < L.length → i ∈ seen.toList) → K (a.put o.dst (.tuple #[.bool false])) w)
    (h1 : ∀ i e w', L[i]? = some e → i ∉ seen.toList → Below r w w' → (∀ k, k ≠ r → w'.heap[k]? = w.heap[k]?) → ItAt w' r m L (seen.push i) → K (a.put o.dst (.tuple #[.bool true, .agg (rowA 3 (dyF e.saga e.step e.back)), .agg (rowA 2 (tdF e.good (i : Int)))])) w') : o.wp Tryd.prog a w K Q := by
  obtain ⟨dst, op, type, pos, after, guard⟩ := o
  simp only at ho
  subst ho
  rcases run_next_at (P := Tryd.prog) w type r m L.length L.length seen (entsM 0 L).toArray L.length hr hm (entsM_hold L) (Nat.le_refl _) with ⟨h2, h3⟩ | ⟨e, he, w1, hw, h3⟩
  · exact opr_val (s := Instr.next (a.eval x) false type) (by simp [execOp]) (by rw [hx]; exact h3) (h0 (left_none h2))
  · obtain ⟨i, x', hi, rfl, hns⟩ := left_some he
    have hb := new_iter w1 r (.mapIter (some m) L.length (seen.push (entM i x').born) L.length)
    have hw1 : w1.heap = w.heap := by rcases hw with rfl | rfl <;> rfl
    have hbw : Below r w w1 := by rcases hw with rfl | rfl; exact Below.refl _ _; exact (Below.refl _ _).drew
    refine opr_val (s := Instr.next (a.eval x) false type) (by simp [execOp]) (by rw [hx]; exact h3) (h1 i x' _ hi hns (hbw.trans hb.1) (fun k hk => by rw [hb.2 k hk, hw1]) ?_)
    have hlt : r < w1.heap.size := by rw [hw1]; exact ItAt.lt hr
    unfold ItAt
    simp [setBlock, hlt, entM]
theorem opr_entryM {i : Nat} {e : En} {seen : Array Nat} (ho : o.op = .entry x) (hx : a.eval x = .pointer (some ⟨r, 0, none⟩)) (hm : MapAt w m L) (hr : ItAt w r m L (seen.push i)) (he : L[i]? = some e) (h : K (a.put o.dst (.tuple #[.agg (rowA 3 (dyF e.saga e.step e.back)), .agg (rowA 2 (tdF e.good (i : Int)))])) w) : o.wp Tryd.prog a w K Q := by
  obtain ⟨dst, op, type, pos, after, guard⟩ := o
  simp only at ho
  subst ho
  have h1 := entsM_at 0 L i e he
  rw [Nat.zero_add] at h1
  refine opr_val (s := Instr.entry (a.eval x)) (by simp [execOp]) ?_ h
  rw [hx]
  exact run_entry_at (P := Tryd.prog) w r m L.length seen (entsM 0 L).toArray L.length (entM i e) hr hm (by simpa using List.mem_of_getElem? h1) (entsM_nodup L)
theorem opr_putmB {P : Program} {t t' : TypeId} {g o0 n m : Nat} {f f0 F : Nat → Value} (ho : o.op = .store t x y) (hx : a.eval x = .pointer (some ⟨g, o0, none⟩)) (hy : a.eval y = .agg (rowA m f)) (hr : w.rowIs g t' n f0) (hm : o0 + m ≤ n) (hi : (P.info? t).map (·.size) = some m) (hone : ∀ i, (f i).oneCell' = true)
    (hF : ∀ i, i < n → F i = if o0 ≤ i ∧ i < o0 + m then f (i - o0) else f0 i) (h : ∀ w', RT g w w' → (∀ k, k < w.heap.size → k ≠ g → w'.heap[k]? = w.heap[k]?) → w'.rowIs g t' n F → K (a.put o.dst undef) w') : o.wp P a w K Q := by
  refine wp_store_mid t x y ho g o0 (rowA m f) hx hy (by rw [rowA_size]; exact fun j hj => ⟨by simp [hr.cell (i := o0 + j) (by omega)], by simpa using hr.frozen (o0 + j)⟩) (by rw [rowA_size]; exact hi) (rowA_one _ _ hone) ?_
  refine h _ (RT.setCells _ _ _) (fun k h1 h2 => World.heap_setCells_other w g o0 _ h1 h2) ((rowIs_setCells_at hr (rowA m f).toList o0).congr fun i hi => ?_)
  rw [hF i hi, rowA_toList]
  simp only [List.length_map, List.length_range]
  by_cases h : o0 ≤ i ∧ i < o0 + m
  · rw [if_pos h, if_pos h]
    simp [show i - o0 < m by omega]
  · rw [if_neg h, if_neg h]
theorem opr_idxR {P : Program} {sT eT : TypeId} {n b m c i : Nat} {z : Int} (T : ElTy P sT eT n) (hi : i < m) (hz : z = (i : Int)) (ho : o.op = .indexAddr sT x y) (hx : a.eval x = .slice (some ⟨b, 0, none⟩) m c) (hy : a.eval y = .int .i64 z) (h : K (a.put o.dst (.pointer (some ⟨b, i * n, none⟩))) w) : o.wp P a w K Q := by
  subst hz
  obtain ⟨dst, op, type, pos, after, guard⟩ := o
  simp only at ho
  subst ho
  exact opr_val (s := Instr.indexAt sT (a.eval x) (a.eval y)) rfl (by rw [hx, hy, run_idxE T w hi, Nat.zero_add]) h
theorem run_mkE (m : Nat) (hm : m ≤ 1000000) (W : World) : (Instr.makeSlice 38 (.int .i64 (m : Int)) (.int .i64 (m : Int))).run Tryd.prog W = .ok (.slice (some ⟨W.heap.size, 0, none⟩) m m) (W.alloc (.cells (rowA (m * 4) (fun i => eyF zE (i % 4))) 56)) := by
  obtain ⟨i0, z, hi, hz0, hz1, hz2, hz3⟩ := entEl.inf
  have hz : z = .agg (rowA 4 (eyF zE)) := by
    have h : (Tryd.prog.info? 56).map (fun i => i.zero) = some (some (.agg (rowA 4 (eyF zE)))) := by kernel_rfl
    rw [hi] at h
    simp at h
    rw [hz0] at h
    exact Option.some.inj h
  have := run_make (P := Tryd.prog) W 38 56 i0 _ Tryd.underlying38 hi hz0 .i64 .i64 (m : Int) (m : Int) (by omega) (by omega) (by have : i0.bytes * m ≤ 1000 * 1000000 := Nat.mul_le_mul hz2 hm; have h2 : ((i0.bytes * m : Nat) : Int) ≤ 1000000000 := (by omega); rw [Int.natCast_mul] at h2; omega) (by omega)
  rw [this, hz1, Int.toNat_natCast]
  have e : madeCells z.cells (m * 4) = rowA (m * 4) (fun i => eyF zE (i % 4)) := by
    subst hz
    apply Array.ext_getElem?
    intro i
    by_cases hi2 : i < m * 4
    · rw [rowA_at _ _ _ hi2]
      have hs : (Value.agg (rowA 4 (eyF zE))).cells = #[.int .i64 0, .int .i64 0, .bool false, .bool false] := rfl
      rw [hs]
      unfold madeCells
      have : i % 4 = 0 ∨ i % 4 = 1 ∨ i % 4 = 2 ∨ i % 4 = 3 := by omega
      rcases this with h | h | h | h <;> simp [hi2, h, eyF, zE]
    · rw [Array.getElem?_eq_none (by rw [size_madeCells]; omega), Array.getElem?_eq_none (by rw [rowA_size]; omega)]
  rw [e]
theorem opr_mkE {m : Nat} (hm : m ≤ 1000000) (ho : o.op = .makeSlice 38 x y) (hx : a.eval x = .int .i64 (m : Int)) (hy : a.eval y = .int .i64 (m : Int)) (h : ∀ w', NewT w w' → w'.rowIs w.heap.size 56 (m * 4) (fun i => eyF zE (i % 4)) → K (a.put o.dst (.slice (some ⟨w.heap.size, 0, none⟩) m m)) w') : o.wp Tryd.prog a w K Q := by
  obtain ⟨dst, op, type, pos, after, guard⟩ := o
  simp only at ho
  subst ho
  exact opr_val (s := Instr.makeSlice 38 (a.eval x) (a.eval y)) rfl (by rw [hx, hy]; exact run_mkE m hm w) (h _ (NewT.alloc _ _) (rowIs_box w _ (m * 4) _))
end
/-- A slice of entries in blocks from B on. -/
def RdEy (B : Nat) (w : World) (v : Value) (L : List En) : Prop := RdL 4 eyE w v L ∧ ∀ k, v.ownBlock = some k → B ≤ k ∧ k < w.heap.size
theorem RdEy.of {B : Nat} {w w' : World} {v : Value} {L : List En} (h : RdEy B w v L) (hs : w.heap.size ≤ w'.heap.size) (hb : ∀ k, B ≤ k → k < w.heap.size → w'.heap[k]? = w.heap[k]?) : RdEy B w' v L := by
  obtain ⟨⟨fs, ⟨A, c, rfl, h1, h2, h3⟩, h4, h5⟩, h6⟩ := h
  refine ⟨⟨fs, ⟨A, c, rfl, h1, h2, fun h0 => ?_⟩, h4, h5⟩, fun k hk => ⟨(h6 k hk).1, by have := (h6 k hk).2; omega⟩⟩
  obtain ⟨b, o, rfl, hc⟩ := h3 h0
  have hk := h6 b rfl
  exact ⟨b, o, rfl, fun i d hd j hj => (cell_of (hb b hk.1 hk.2)).trans (hc i d hd j hj)⟩
theorem RdEy.new {B : Nat} {w w' : World} {v : Value} {L : List En} (h : RdEy B w v L) (hN : NewT w w') : RdEy B w' v L := h.of hN.out.size fun k _ hk => hN.out.block k hk
theorem RdEy.pt {B lo hi : Nat} {w w' : World} {v : Value} {L : List En} (h : RdEy B w v L) (hT : PT lo hi w w') (hh : hi ≤ B) : RdEy B w' v L := h.of hT.size fun k h1 h2 => hT.high k h2 (by omega)
def svEs (B : Nat) (L : List En) : SV NewT := ⟨fun v w => RdEy B w v L, fun _ _ _ h hT => h.new hT⟩
theorem rdEy_row {w : World} {g B : Nat} {t : TypeId} {F : Nat → Value} {L : List En} (hr : w.rowIs g t (L.length * 4) F) (hF : ∀ i x, L[i]? = some x → ∀ j, j < 4 → F (i * 4 + j) = eyF x j) (hB : B ≤ g) (hl : L.length ≤ 1000000) : RdEy B w (.slice (some ⟨g, 0, none⟩) L.length L.length) L := by
  refine ⟨⟨L.map eyF, ⟨some ⟨g, 0, none⟩, L.length, by simp, by simp, by unfold maxLen; omega, fun h0 => ⟨g, 0, rfl, fun i d hd j hj => ?_⟩⟩, by simp, fun i x hx => ⟨eyF x, by simp [hx], rfl⟩⟩, fun k hk => ?_⟩
  · rw [List.getElem?_map] at hd
    cases hx : L[i]? with
    | none => rw [hx] at hd; cases hd
    | some x =>
      rw [hx] at hd
      simp at hd
      subst hd
      have hi := (List.getElem?_eq_some_iff.1 hx).1
      rw [Nat.zero_add, hr.cell (by omega), hF i x hx j hj]
  · simp [Value.ownBlock] at hk
    subst hk
    exact ⟨hB, by
      by_cases h0 : L.length = 0
      · exact hr.lt
      · exact hr.lt⟩
end Go.Proofs.YtchpmdcacpjojaaDoor
/- Package part: Entries. -/
namespace Go.Proofs.YtchpmdcacpjojaaDoor
open Go Go.RowKit
set_option maxRecDepth 8000
set_option linter.all false
set_option maxHeartbeats 2000000 in
theorem Entries_cv (B : Nat) {g m : Nat} {n need e : Int} {pv wv : Value} {L : List En} (w : World) (hr : w.rowIs g 67 6 (pyF n pv wv need e (.map (some m)))) (hm : MapAt w m L) (hL : L.length ≤ 1000000) (hB : B ≤ w.heap.size) : Cv 16 #[.pointer (some ⟨g, 0, none⟩)] w (svEs B L) := by
  unfold Cv
  have HMP := Lib.hid hm
  have HLL := Lib.hid hL
  have HB := Lib.hid hB
  clear hm hL hB
  go_enter Tryd.func16, Tryd.ntmps16
  have Rg := Lib.hid hr
  have HM := Lib.hid (NewT.refl w)
  clear hr
  go_upto_region 1 with fail
  refine wp_region_steps0 NewT [SV.eq (.pointer (some ⟨g, 0, none⟩)), SV.eq (.bool false)] [([(0, none)], none), ([(6, some 0)], none)] 38 2 rfl rfl (by kernel_rfl) NewT.trans (NewT.refl _) (Nat.le_of_ble_eq_true rfl) ⟨?_, ?_, trivial⟩ ?_
  · exact fun a wx hT hF K hK => rely_wp rfl (opr_move (.inl rfl) (hK _ _ (NewT.refl _) hF.1))
  · exact fun a wx hT hF K hK => rely_wp rfl (opr_eqPn rfl hF.1 (hK _ _ (NewT.refl _) rfl))
  · intro w1 k1
    iterate 2 (intro u h; obtain rfl := Eq.symm (h (by simp)); clear h)
    refine relyEnd_nil rfl ?_
    refine wpList_end rfl ?_
    simp only [Act.put, List.setIfInBounds_toArray, List.set_cons_zero, List.set_cons_succ]
    go_simp
    replace Rg := Lib.hid (k1.row Rg.out)
    replace HM := Lib.hid (NewT.trans _ _ _ HM.out k1)
    clear k1
    go_upto_region 3 with fail
    refine wp_region_steps0 NewT [SV.eq (.pointer (some ⟨g, 0, none⟩)), SV.eq (.pointer (some ⟨g, 0, none⟩)), SV.eq (.pointer (some ⟨g, 5, none⟩)), SV.eq ((.map (some m))), SV.eq (.int .i64 ((List.length L : Int)))] [([(0, none)], none), ([(8, some 0)], none), ([(9, some 1)], none), ([(10, some 2)], none), ([(11, some 3)], none)] 38 5 rfl rfl (by kernel_rfl) NewT.trans (NewT.refl _) (Nat.le_of_ble_eq_true rfl) ⟨?_, ?_, ?_, ?_, ?_, trivial⟩ ?_
    · exact fun a wx hT hF K hK => rely_wp rfl (opr_move (.inl rfl) (hK _ _ (NewT.refl _) hF.1))
    · exact fun a wx hT hF K hK => rely_wp rfl (opr_nilc rfl hF.1 (hK _ _ (NewT.refl _) rfl))
    · exact fun a wx hT hF K hK => rely_wp rfl (opr_fldPy3 rfl hF.1 (hK _ _ (NewT.refl _) rfl))
    · exact fun a wx hT hF K hK => rely_wp rfl (opr_ldMp (hT.row Rg.out) (by decide) rfl rfl hF.1 (hK _ _ (NewT.refl _) rfl))
    · exact fun a wx hT hF K hK => rely_wp rfl (opr_lenM (t := 0) rfl hF.1 ((NewT.trans _ _ _ HM.out hT).mapAt HMP.out) (hK _ _ (NewT.refl _) rfl))
    · intro w2 k2
      iterate 5 (intro u h; obtain rfl := Eq.symm (h (by simp)); clear h)
      refine relyEnd_nil rfl ?_
      simp only [Act.put, List.setIfInBounds_toArray, List.set_cons_zero, List.set_cons_succ]
      refine wpList_plain rfl (fun K hK => ?_)
      refine opr_mkE HLL.out rfl rfl rfl (fun w3 hn3 rr3 => hK _ _ ?_)
      clear hK K
      simp only [Act.put, List.setIfInBounds_toArray, List.set_cons_zero, List.set_cons_succ]
      refine wpList_plain rfl (fun K hK => ?_)
      refine opr_move (.inr rfl) (hK _ _ ?_)
      clear hK K
      refine wpList_end rfl ?_
      simp only [Act.put, List.setIfInBounds_toArray, List.set_cons_zero, List.set_cons_succ]
      go_simp
      obtain ⟨go, h_go⟩ : ∃ g_, w2.heap.size = g_ := ⟨_, rfl⟩
      rw [h_go] at rr3
      simp only [h_go]
      have HGO : Hid (w.heap.size ≤ go ∧ g < go) := Lib.hid (by rw [← h_go]; exact ⟨(NewT.trans _ _ _ HM.out k2).out.size, (k2.row Rg.out).lt⟩)
      have q3 := NewT.trans _ _ _ k2 hn3
      clear k2 hn3 h_go
      replace Rg := Lib.hid (q3.row Rg.out)
      replace HM := Lib.hid (NewT.trans _ _ _ HM.out q3)
      clear q3
      have Rgo := Lib.hid rr3
      clear rr3
      go_upto_region 4 with fail
      refine wp_region_steps0 NewT [SV.eq (.pointer (some ⟨g, 0, none⟩)), SV.eq (.pointer (some ⟨g, 0, none⟩)), SV.eq (.pointer (some ⟨g, 5, none⟩)), SV.eq ((.map (some m)))] [([(0, none)], none), ([(14, some 0)], none), ([(15, some 1)], none), ([(16, some 2)], none)] 38 4 rfl rfl (by kernel_rfl) NewT.trans (NewT.refl _) (Nat.le_of_ble_eq_true rfl) ⟨?_, ?_, ?_, ?_, trivial⟩ ?_
      · exact fun a wx hT hF K hK => rely_wp rfl (opr_move (.inl rfl) (hK _ _ (NewT.refl _) hF.1))
      · exact fun a wx hT hF K hK => rely_wp rfl (opr_nilc rfl hF.1 (hK _ _ (NewT.refl _) rfl))
      · exact fun a wx hT hF K hK => rely_wp rfl (opr_fldPy3 rfl hF.1 (hK _ _ (NewT.refl _) rfl))
      · exact fun a wx hT hF K hK => rely_wp rfl (opr_ldMp (hT.row Rg.out) (by decide) rfl rfl hF.1 (hK _ _ (NewT.refl _) rfl))
      · intro w11 k11
        iterate 4 (intro u h; obtain rfl := Eq.symm (h (by simp)); clear h)
        refine relyEnd_nil rfl ?_
        simp only [Act.put, List.setIfInBounds_toArray, List.set_cons_zero, List.set_cons_succ]
        refine wpList_plain rfl (fun K hK => ?_)
        refine opr_rangeM (L := L) rfl rfl ((NewT.trans _ _ _ HM.out k11).mapAt HMP.out) (fun w4 hn4 hIt => hK _ _ ?_)
        clear hK K
        refine wpList_end rfl ?_
        simp only [Act.put, List.setIfInBounds_toArray, List.set_cons_zero, List.set_cons_succ]
        go_simp
        obtain ⟨gr, h_gr⟩ : ∃ g_, w11.heap.size = g_ := ⟨_, rfl⟩
        rw [h_gr] at hIt
        simp only [h_gr]
        have HGR : Hid (go < gr) := Lib.hid (by rw [← h_gr]; exact (k11.row Rgo.out).lt)
        have q4 := NewT.trans _ _ _ k11 hn4
        clear k11 hn4 h_gr
        replace Rg := Lib.hid (q4.row Rg.out)
        replace Rgo := Lib.hid (q4.row Rgo.out)
        replace HM := Lib.hid (NewT.trans _ _ _ HM.out q4)
        clear q4
        have HIT := Lib.hid hIt
        clear hIt Rg
        go_wp2
        go_loopw [4, 5] (fun a b wr => ∃ (seen : Array Nat) (Fo : Nat → Value), Hid (NewT w wr) ∧ Hid (ItAt wr gr m L seen) ∧ Hid ((∀ i ∈ seen.toList, i < L.length) ∧ seen.toList.Nodup) ∧ Hid (wr.rowIs go 56 (L.length * 4) Fo) ∧ Hid (∀ i x, i ∈ seen.toList → L[i]? = some x → ∀ j, j < 4 → Fo (i * 4 + j) = eyF x j)) (fun _ _ wr => ((List.range L.length).filter fun i => !(wr.iterSeen gr).toList.contains i).length)
        case atStart => exact ⟨#[], _, HM, HIT, Lib.hid ⟨fun i h => by simp at h, by simp⟩, Rgo, Lib.hid (fun i x h => by simp at h)⟩
        case round =>
          clear HM HIT Rgo
          obtain ⟨seen, Fo, HM, HIT, HSE, Rgo, HFO⟩ := hrel
          go_upto_region 5 with fail
          refine wp_region_lit ?_
          refine wpList_plain rfl (fun K hK => ?_)
          refine opr_nextM (L := L) rfl rfl (HM.out.mapAt HMP.out) HIT.out (fun hall => hK _ _ ?_) (fun i x w5 hix hni hb5 ho5 hIt5 => hK _ _ ?_)
          · clear hK K
            simp only [Act.put, List.setIfInBounds_toArray, List.set_cons_zero, List.set_cons_succ]
            refine wpList_plain rfl (fun K hK => ?_)
            refine opr_ext rfl rfl rfl (hK _ _ ?_)
            clear hK K
            refine wpList_end rfl ?_
            simp only [Act.put, List.setIfInBounds_toArray, List.set_cons_zero, List.set_cons_succ]
            have HALL := Lib.hid hall
            clear hall
            go_simp
            go_wp2
            go_ret
            exact ⟨_, rfl, HM.out, rdEy_row Rgo.out (fun i x hx j hj => HFO.out i x (HALL.out i (List.getElem?_eq_some_iff.1 hx).1) hx j hj) (Nat.le_trans HB.out HGO.out.1) HLL.out⟩
          · clear hK K
            simp only [Act.put, List.setIfInBounds_toArray, List.set_cons_zero, List.set_cons_succ]
            refine wpList_plain rfl (fun K hK => ?_)
            refine opr_ext rfl rfl rfl (hK _ _ ?_)
            clear hK K
            refine wpList_end rfl ?_
            simp only [Act.put, List.setIfInBounds_toArray, List.set_cons_zero, List.set_cons_succ]
            have HIX := Lib.hid hix
            have HNI := Lib.hid hni
            have hN5 : NewT w w5 := NewT.of (HM.out.out.trans (hb5.mono (by have := HGO.out; have := HGR.out; omega)))
            replace Rgo := Lib.hid (row_of (ho5 go (by have := HGR.out; omega)) Rgo.out)
            have HM5 := Lib.hid hN5
            have HI5 := Lib.hid hIt5
            have HMS := Lib.hid (show wr.heap.size ≤ w5.heap.size from hb5.size)
            clear hix hni hb5 ho5 hIt5 hN5
            go_simp
            go_upto_region 6 with fail
            refine wp_region_lit ?_
            refine wpList_plain rfl (fun K hK => ?_)
            refine opr_entryM (L := L) rfl rfl (HM5.out.mapAt HMP.out) HI5.out HIX.out (hK _ _ ?_)
            clear hK K
            simp only [Act.put, List.setIfInBounds_toArray, List.set_cons_zero, List.set_cons_succ]
            refine wpList_plain rfl (fun K hK => ?_)
            refine opr_ext rfl rfl rfl (hK _ _ ?_)
            clear hK K
            simp only [Act.put, List.setIfInBounds_toArray, List.set_cons_zero, List.set_cons_succ]
            refine wpList_plain rfl (fun K hK => ?_)
            refine opr_ext rfl rfl rfl (hK _ _ ?_)
            clear hK K
            simp only [Act.put, List.setIfInBounds_toArray, List.set_cons_zero, List.set_cons_succ]
            refine wpList_plain rfl (fun K hK => ?_)
            refine opr_allocV rfl run_alloc_de (hK _ _ ?_)
            clear hK K
            simp only [Act.put, List.setIfInBounds_toArray, List.set_cons_zero, List.set_cons_succ]
            have r1 := rowIs_box w5 71 3 (dyF 0 0 false)
            have n1 := NewT.alloc w5 (.cells (rowA 3 (dyF 0 0 false)) 71)
            obtain ⟨gd, h_gd⟩ : ∃ g_, w5.heap.size = g_ := ⟨_, rfl⟩
            rw [h_gd] at r1
            simp only [h_gd]
            generalize w5.alloc (.cells (rowA 3 (dyF 0 0 false)) 71) = w6 at r1 n1 ⊢
            refine wpList_plain rfl (fun K hK => ?_)
            refine opr_allocV rfl run_alloc_td (hK _ _ ?_)
            clear hK K
            simp only [Act.put, List.setIfInBounds_toArray, List.set_cons_zero, List.set_cons_succ]
            have r2 := rowIs_box w6 73 2 (tdF false 0)
            have n2 := NewT.alloc w6 (.cells (rowA 2 (tdF false 0)) 73)
            have hlt := r1.lt
            obtain ⟨gt, h_gt⟩ : ∃ g_, w6.heap.size = g_ := ⟨_, rfl⟩
            rw [h_gt] at r2 hlt
            simp only [h_gt]
            generalize w6.alloc (.cells (rowA 2 (tdF false 0)) 73) = w7 at r2 n2 ⊢
            refine wpList_plain rfl (fun K hK => ?_)
            refine opr_putm (g := gd) (o0 := 0) (m := 3) (f := dyF x.saga x.step x.back) (F := dyF x.saga x.step x.back) rfl rfl rfl (n2.row r1) (by decide) info_de (dyF_one _ _ _) (put_allN _ _ _) ?_
            intro w8 hR8 rr8
            refine hK _ _ ?_
            clear hK K
            simp only [Act.put, List.setIfInBounds_toArray, List.set_cons_zero, List.set_cons_succ]
            refine wpList_plain rfl (fun K hK => ?_)
            refine opr_putm (g := gt) (o0 := 0) (m := 2) (f := tdF x.good (i : Int)) (F := tdF x.good (i : Int)) rfl rfl rfl (hR8.row (by omega) r2) (by decide) info_td (tdF_one _ _) (put_allN _ _ _) ?_
            intro w9 hR9 rr9
            refine hK _ _ ?_
            clear hK K
            refine wpList_end rfl ?_
            simp only [Act.put, List.setIfInBounds_toArray, List.set_cons_zero, List.set_cons_succ]
            have n9 : NewT w5 w9 := NewT.rt (NewT.rt (NewT.trans _ _ _ n1 n2) hR8 (by omega)) hR9 (by have := n1.out.size; omega)
            have HGD : Hid (go < gd ∧ gr < gd ∧ gd < gt) := Lib.hid ⟨by rw [← h_gd]; exact Rgo.out.lt, by rw [← h_gd]; exact ItAt.lt HI5.out, hlt⟩
            have Rgd := Lib.hid (hR9.row (by omega) rr8)
            have Rgt := Lib.hid rr9
            replace Rgo := Lib.hid (n9.row Rgo.out)
            have HI9 := Lib.hid (show ItAt w9 gr m L (seen.push i) from (n9.out.block gr (ItAt.lt HI5.out)).trans HI5.out)
            have HM9 := Lib.hid (NewT.trans _ _ _ HM5.out n9)
            clear r1 n1 h_gd r2 n2 hlt h_gt hR8 rr8 hR9 rr9 n9 HI5 HM5
            go_simp
            go_upto_region 7 with fail
            refine wp_region_steps0 NewT [SV.eq ((.slice (some ⟨go, 0, none⟩) L.length L.length)), SV.eq (.pointer (some ⟨gt, 1, none⟩)), SV.eq (.int .i64 ((i : Int))), SV.eq (.pointer (some ⟨gd, 0, none⟩)), SV.eq (.int .i64 (x.saga)), SV.eq (.pointer (some ⟨gd, 1, none⟩)), SV.eq (.int .i64 (x.step)), SV.eq (.pointer (some ⟨gd, 2, none⟩)), SV.eq (.bool (x.back)), SV.eq (.pointer (some ⟨gt, 0, none⟩)), SV.eq (.bool (x.good)), SV.eq (.agg (rowA 4 (eyF ⟨x.saga, x.step, x.back, x.good⟩))), SV.eq (.pointer (some ⟨go, i * 4, none⟩))] [([(3, none)], none), ([(5, none)], none), ([(25, some 1)], none), ([(4, none)], none), ([(27, some 3)], none), ([(4, none)], none), ([(29, some 5)], none), ([(4, none)], none), ([(31, some 7)], none), ([(5, none)], none), ([(33, some 9)], none), ([(28, some 4), (30, some 6), (32, some 8), (34, some 10)], none), ([(24, some 0), (26, some 2)], none)] 38 13 rfl rfl (by kernel_rfl) NewT.trans (NewT.refl _) (Nat.le_of_ble_eq_true rfl) ⟨?_, ?_, ?_, ?_, ?_, ?_, ?_, ?_, ?_, ?_, ?_, ?_, ?_, trivial⟩ ?_
            · exact fun a wx hT hF K hK => rely_wp rfl (opr_move (.inl rfl) (hK _ _ (NewT.refl _) hF.1))
            · exact fun a wx hT hF K hK => rely_wp rfl (opr_fldTd1 rfl hF.1 (hK _ _ (NewT.refl _) rfl))
            · exact fun a wx hT hF K hK => rely_wp rfl (opr_ldI (hT.row Rgt.out) (by decide) rfl rfl hF.1 (hK _ _ (NewT.refl _) rfl))
            · exact fun a wx hT hF K hK => rely_wp rfl (opr_fldDy0 rfl hF.1 (hK _ _ (NewT.refl _) rfl))
            · exact fun a wx hT hF K hK => rely_wp rfl (opr_ldI (hT.row Rgd.out) (by decide) rfl rfl hF.1 (hK _ _ (NewT.refl _) rfl))
            · exact fun a wx hT hF K hK => rely_wp rfl (opr_fldDy1 rfl hF.1 (hK _ _ (NewT.refl _) rfl))
            · exact fun a wx hT hF K hK => rely_wp rfl (opr_ldI (hT.row Rgd.out) (by decide) rfl rfl hF.1 (hK _ _ (NewT.refl _) rfl))
            · exact fun a wx hT hF K hK => rely_wp rfl (opr_fldDy2 rfl hF.1 (hK _ _ (NewT.refl _) rfl))
            · exact fun a wx hT hF K hK => rely_wp rfl (opr_ldQ (hT.row Rgd.out) (by decide) rfl rfl hF.1 (hK _ _ (NewT.refl _) rfl))
            · exact fun a wx hT hF K hK => rely_wp rfl (opr_fldTd0 rfl hF.1 (hK _ _ (NewT.refl _) rfl))
            · exact fun a wx hT hF K hK => rely_wp rfl (opr_ldQ (hT.row Rgt.out) (by decide) rfl rfl hF.1 (hK _ _ (NewT.refl _) rfl))
            · intro a wx hT hF K hK
              obtain ⟨f28, f30, f32, f34, _⟩ := hF
              have f28 : a.tmps.getD 28 undef = .int .i64 (x.saga) := f28
              have f30 : a.tmps.getD 30 undef = .int .i64 (x.step) := f30
              have f32 : a.tmps.getD 32 undef = .bool (x.back) := f32
              have f34 : a.tmps.getD 34 undef = .bool (x.good) := f34
              refine rely_wp rfl ?_
              exact opr_build (pv := #[(0, .int .i64 (x.saga)), (1, .int .i64 (x.step)), (2, .bool (x.back)), (3, .bool (x.good))]) rfl (by simp only [List.map_toArray, List.map_cons, List.map_nil, eval_tmp, eval_const, f28, f30, f32, f34]) (run_bld_ey x.saga x.step x.back x.good wx) (hK _ _ (NewT.refl _) rfl)
            · exact fun a wx hT hF K hK => rely_wp rfl (opr_idxR entEl (List.getElem?_eq_some_iff.1 HIX.out).1 rfl rfl hF.1 hF.2.1 (hK _ _ (NewT.refl _) rfl))
            · intro w10 k10
              iterate 13 (intro u h; obtain rfl := Eq.symm (h (by simp)); clear h)
              refine relyEnd_nil rfl ?_
              simp only [Act.put, List.setIfInBounds_toArray, List.set_cons_zero, List.set_cons_succ]
              refine wpList_plain rfl (fun K hK => ?_)
              refine opr_putmB (g := go) (o0 := i * 4) (m := 4) (f := eyF x) (F := (fun z => if i * 4 ≤ z ∧ z < i * 4 + 4 then eyF x (z - i * 4) else Fo z)) rfl rfl rfl (k10.row Rgo.out) (by have := (List.getElem?_eq_some_iff.1 HIX.out).1; have : (i + 1) * 4 ≤ L.length * 4 := Nat.mul_le_mul_right 4 this; omega) info_ey (eyF_one _) (fun _ _ => rfl) ?_
              intro w11 hR11 ho11 rr11
              refine hK _ _ ?_
              clear hK K
              refine wpList_end rfl ?_
              simp only [Act.put, List.setIfInBounds_toArray, List.set_cons_zero, List.set_cons_succ]
              go_simp
              have hI11 : ItAt w11 gr m L (seen.push i) := (ho11 gr (Nat.lt_of_lt_of_le (ItAt.lt HI9.out) k10.out.size) (by have := HGR.out; omega)).trans ((k10.out.block gr (ItAt.lt HI9.out)).trans HI9.out)
              have hM11 : NewT w w11 := NewT.rt (NewT.trans _ _ _ HM9.out k10) hR11 (by have := HGO.out; omega)
              have hil := (List.getElem?_eq_some_iff.1 HIX.out).1
              go_wp2
              refine ⟨?_, ?_⟩
              · refine ⟨seen.push i, (fun z => if i * 4 ≤ z ∧ z < i * 4 + 4 then eyF x (z - i * 4) else Fo z), Lib.hid hM11, Lib.hid hI11, Lib.hid ⟨fun k hk => ?_, ?_⟩, Lib.hid rr11, Lib.hid (fun k y hk hy j hj => ?_)⟩
                · rw [Array.toList_push, List.mem_append] at hk
                  rcases hk with hk | hk
                  · exact HSE.out.1 k hk
                  · simp at hk; omega
                · rw [Array.toList_push, List.nodup_append]
                  exact ⟨HSE.out.2, by simp, fun a ha b hb => by simp at hb; subst hb; exact fun e => HNI.out (e ▸ ha)⟩
                · rw [Array.toList_push, List.mem_append] at hk
                  rcases hk with hk | hk
                  · have hki : k ≠ i := fun e => HNI.out (e ▸ hk)
                    show (if i * 4 ≤ k * 4 + j ∧ k * 4 + j < i * 4 + 4 then _ else _) = _
                    rw [if_neg (by omega)]
                    exact HFO.out k y hk hy j hj
                  · simp at hk
                    subst hk
                    obtain rfl : x = y := Option.some.inj (HIX.out.symm.trans hy)
                    show (if k * 4 ≤ k * 4 + j ∧ k * 4 + j < k * 4 + 4 then _ else _) = _
                    rw [if_pos (by omega), show k * 4 + j - k * 4 = j by omega]
              · simp only [World.iterSeen, show w11.heap[gr]? = _ from hI11, show wr.heap[gr]? = _ from HIT.out, ]
                refine filter_lt (fun k => !seen.toList.contains k) (fun k => !(seen.push i).toList.contains k) (fun k hk => ?_) i ?_ ?_ _ (by simpa using hil)
                · simp at hk ⊢; exact hk.1
                · simpa using HNI.out
                · simp
end Go.Proofs.YtchpmdcacpjojaaDoor
/- A region that draws its order, with a state that hangs on which of its operations are done, on the frame and on the world. No program is named here. -/
namespace Go.Proofs.YtchpmdcacpjojaaDoor
open Go Go.RowKit
set_option maxRecDepth 8000
set_option linter.all false

/-- Operation i, not done yet, all that it waits for done. -/
structure LNext (ops : Array Oper) (i : Nat) (li : Array Bool) : Prop where
  no : li.getD i false = false
  lt : i < li.size
  waits : ∀ j, Region.waitsFor .any ops i j = true → li.getD j false = true
  closed : ∀ j k, Region.waitsFor .any ops j k = true → li.getD j false = true → li.getD k false = true
def relyStepL (P : Program) (ops : Array Oper) (Q : Exit → Act → World → Prop) (T : World → World → Prop) (V : List (SV T)) (J : Array Bool → Act → World → Prop) (a0 : Act) (w0 : World) (i : Nat) (o : Oper) (dp : List (Tmp × Option Nat)) (g : Option (Tmp × Bool)) (c : SV T) : Prop :=
  ∀ (a : Act) (w : World) (li : Array Bool), T w0 w → relyFacts V a0 a w dp → J li a w → LNext ops i li → ∀ K : Act → World → Prop, (∀ v w', T w w' → J (li.setIfInBounds i true) (a.put o.dst v) w' → c.pred v w' → K (a.put o.dst v) w') →
    if relyGuard g a then o.wp P a w K Q else K (a.put o.dst undef) w
def relyAllL (P : Program) (ops : Array Oper) (Q : Exit → Act → World → Prop) (T : World → World → Prop) (V : List (SV T)) (J : Array Bool → Act → World → Prop) (a0 : Act) (w0 : World) : Nat → List Oper → Deps → List (SV T) → Prop
  | _, [], _, _ => True
  | i, o :: r, (dp, g) :: D, c :: C => relyStepL P ops Q T V J a0 w0 i o dp g c ∧ relyAllL P ops Q T V J a0 w0 (i + 1) r D C
  | _, _, _, _ => False
section
variable {P : Program} {ops : Array Oper} {Q : Exit → Act → World → Prop} {T : World → World → Prop} {V : List (SV T)} {J : Array Bool → Act → World → Prop} {a0 : Act} {w0 : World} {n : Nat} {D : Deps} {init : List Oper} {last : Oper}
theorem relyAllL_at : ∀ (i : Nat) (l : List Oper) (D : Deps) (C : List (SV T)) (k : Nat) (o : Oper) dp g, relyAllL P ops Q T V J a0 w0 i l D C → l[k]? = some o → D[k]? = some (dp, g) → relyStepL P ops Q T V J a0 w0 (i + k) o dp g (C.getD k SV.any)
  | _, [], _, _, _, _, _, _, _, h, _ => by simp at h
  | _, x :: r, [], _, _, _, _, _, h, _, _ => h.elim
  | _, x :: r, y :: D, [], _, _, _, _, h, _, _ => h.elim
  | i, x :: r, (dp, g) :: D, c :: C, 0, o, dp', g', h, ho, hD => by
    simp at ho hD
    obtain ⟨rfl, rfl⟩ := hD
    subst ho
    exact h.1
  | i, x :: r, (dp, g) :: D, c :: C, k + 1, o, dp', g', h, ho, hD => by
    have := relyAllL_at (i + 1) r D C k o dp' g' h.2 (by simpa using ho) (by simpa using hD)
    rw [show i + 1 + k = i + (k + 1) by omega] at this
    simpa using this
theorem wpAny_relyL {Q2 : Exit → Act → World → Prop} (hQ : ∀ (o : Oper) (a : Act) (w : World) (K : Act → World → Prop), a.defers = a0.defers → o.wp P a w K Q2 → o.wp P a w K Q) (hsplit : ops.toList = init ++ [last]) (hn : a0.tmps.size = n) (hB : relyB ops n 0 init D = true) (hlast : lastB ops last init.length = true) (hg : last.guard = none) (ht : ∀ a b c : World, T a b → T b c → T a c)
    (hl : init.length ≤ V.length) (hA : relyAllL P ops Q2 T V J a0 w0 0 init D V) (hE : ∀ w, T w0 w → relyEnd (fun _ a w => (∃ li : Array Bool, (∀ j, j < init.length → li.getD j false = true) ∧ J li a w) → last.wp P a w (fun a' w' => Q .normal a' w') Q) T init V a0 w) :
    ∀ (fuel : Nat) (listed : Array Bool) (a : Act) (w : World), (unl ops listed).length = fuel → listed.getD init.length true = false → RelyInv ops T V a0 w0 listed a w → J listed a w → wpAny P .any ops Q fuel listed a w := by
  obtain ⟨hlo, hsz, hpre⟩ := last_at hsplit
  simp only [lastB, Bool.and_eq_true] at hlast
  have hat : ∀ i o, init[i]? = some o → ∃ dp g, relyOne ops n i o dp g = true ∧ relyStepL P ops Q2 T V J a0 w0 i o dp g (V.getD i SV.any) := fun i o hi => by
    obtain ⟨dp, g, hD, h1⟩ := relyB_at init D 0 i o hB hi
    rw [Nat.zero_add] at h1
    refine ⟨dp, g, h1, ?_⟩
    have := relyAllL_at 0 _ _ _ i o dp g hA hi hD
    rwa [Nat.zero_add] at this
  intro fuel
  induction fuel with
  | zero =>
    intro listed a w hu hun inv _
    have : init.length ∈ unl ops listed := by
      unfold unl; rw [List.mem_filter]; exact ⟨List.mem_range.2 (by omega), by rw [hun]; rfl⟩
    rw [List.eq_nil_of_length_eq_zero hu] at this
    cases this
  | succ fuel ih =>
    intro listed a w hu hun inv ph
    refine ⟨fun hr => ?_, fun i hi => ?_⟩
    · exfalso
      have all : ∀ i, i < init.length → listed.getD i false = true := fun i => by
        induction i using Nat.strongRecOn with
        | _ i ih =>
          intro hi
          cases hli : listed.getD i false with
          | true => rfl
          | false =>
            exfalso
            have hmem : i ∈ Region.ready .any ops listed := by
              rw [mem_ready]
              refine ⟨getD_in (by rw [inv.size]; omega) hli, init[i], hpre i _ (List.getElem?_eq_getElem hi), fun e he hb => ?_⟩
              obtain ⟨dp, g, h1, _⟩ := hat i init[i] (List.getElem?_eq_getElem hi)
              simp only [relyOne, Bool.and_eq_true] at h1
              have h2 := (Array.all_eq_true_iff_forall_mem.1 h1.1.1.2) e he
              simp only [hb, Bool.not_true, Bool.false_or, decide_eq_true_eq] at h2
              exact ih e.on h2 (by omega)
            rw [hr] at hmem
            cases hmem
      have hmem : init.length ∈ Region.ready .any ops listed := by
        rw [mem_ready]
        refine ⟨hun, last, hlo, fun e he hb => ?_⟩
        have h2 := (Array.all_eq_true_iff_forall_mem.1 hlast.2) e he
        simp only [hb, Bool.not_true, Bool.false_or, decide_eq_true_eq] at h2
        exact all e.on h2
      rw [hr] at hmem
      cases hmem
    · obtain ⟨h0, o, ho, hall⟩ := mem_ready.1 hi
      have hilt := (Array.getElem?_eq_some_iff.1 ho).1
      by_cases him : i = init.length
      · subst him
        have hol : o = last := Option.some.inj (ho.symm.trans hlo)
        subst hol
        have hdone : ∀ (d j : Nat), init.length - j = d → j < init.length → listed.getD j false = true := fun d => by
          induction d using Nat.strongRecOn with
          | _ d ihd =>
            intro j hd hj
            have h1 := List.all_eq_true.1 hlast.1 j (List.mem_range.2 hj)
            obtain ⟨t, ht1, ht2⟩ := List.any_eq_true.1 h1
            simp only [Bool.and_eq_true, decide_eq_true_eq] at ht2
            obtain ⟨ot, hot, e, he, hb, hon⟩ := Region.waitsFor_spec ht2.2
            have htle : t ≤ init.length := by have := List.mem_range.1 ht1; omega
            rw [← hon]
            by_cases htm : t = init.length
            · subst htm
              have : ot = o := Option.some.inj (hot.symm.trans ho)
              subst this
              exact hall e he hb
            · exact inv.closed t ot hot (ihd (init.length - t) (by omega) t rfl (by omega)) e he hb
        replace hdone : ∀ j, j < init.length → listed.getD j false = true := fun j hj => hdone _ j rfl hj
        have h1 : (∃ li : Array Bool, (∀ j, j < init.length → li.getD j false = true) ∧ J li a w) → o.wp P a w (fun a' w' => Q .normal a' w') Q := rely_all (Q' := fun a w => (∃ li : Array Bool, (∀ j, j < init.length → li.getD j false = true) ∧ J li a w) → o.wp P a w (fun a' w' => Q .normal a' w') Q) inv
          (fun k o hk => ⟨hpre k o hk, hdone k (List.getElem?_eq_some_iff.1 hk).1⟩) (fun j hj => by
            rcases Nat.lt_or_ge j init.length with h | h
            · exact h
            · rcases Nat.eq_or_lt_of_le h with h | h
              · subst h; rw [getD_both hun] at hj; cases hj
              · have : listed.getD j false = false := by simp [Array.getElem?_eq_none (show listed.size ≤ j by rw [inv.size]; omega)]
                rw [this] at hj; cases hj) hl (hE w inv.now)
        have hK : ∀ a' w', Q .normal a' w' → wpAny P .any ops Q fuel (listed.setIfInBounds init.length true) a' w' := fun a' w' h => wpAny_done (ready_none fun j hj => by
          by_cases hj2 : j = init.length
          · subst hj2; simp [show init.length < listed.size by rw [inv.size]; exact hj]
          · exact getD_set_true (hdone j (by omega))) h _
        unfold wpOp
        simp only [hlo, Region.wanted, hg, if_true]
        exact .inl (Oper.wp_mono hK (h1 ⟨listed, hdone, ph⟩))
      · have hi' : i < init.length := by omega
        have hio : init[i]? = some o := by
          have := hpre i init[i] (List.getElem?_eq_getElem hi')
          rw [ho] at this
          rw [List.getElem?_eq_getElem hi', Option.some.inj this]
        obtain ⟨dp, g, h1, hstep⟩ := hat i o hio
        obtain ⟨hfacts, hguard, next⟩ := rely_next hn ht ho h1 h0 hall inv
        have i0 : listed.getD i false = false := getD_both h0
        have hs : if relyGuard g a then o.wp P a w (fun a' w' => wpAny P .any ops Q fuel (listed.setIfInBounds i true) a' w') Q2 else wpAny P .any ops Q fuel (listed.setIfInBounds i true) (a.put o.dst undef) w := by
          exact hstep a w listed inv.now hfacts ph ⟨i0, by rw [inv.size]; exact hilt, fun j hj => by
            obtain ⟨oi, hoi, e, he, hb, hon⟩ := Region.waitsFor_spec hj
            have : oi = o := Option.some.inj (hoi.symm.trans ho)
            subst this
            rw [← hon]
            exact hall e he hb, fun j k hj hl => by
            obtain ⟨oj, hoj, e, he, hb, hon⟩ := Region.waitsFor_spec hj
            rw [← hon]
            exact inv.closed j oj hoj hl e he hb⟩ (fun a' w' => wpAny P .any ops Q fuel (listed.setIfInBounds i true) a' w') (fun v w' hT hJ hv => ih _ _ w' (by have := unl_set inv.size h0; omega) (by rw [getD_set_ne true him]; exact hun) (next v w' hT hv) hJ)
        unfold wpOp
        simp only [ho, hguard]
        split
        · rename_i hw; rw [if_pos hw] at hs; exact .inl (hQ _ _ _ _ inv.defers hs)
        · rename_i hw; rw [if_neg hw] at hs; exact hs
/-- **A region that draws its order, with a state that hangs on what is done.** -/
theorem wp_region_relyL {id : Nat} (T : World → World → Prop) (J : Array Bool → Act → World → Prop) (V : List (SV T)) (D : Deps) (n : Nat) (hla : ops.toList.getLast? = some last) (hm : P.follows .mixedOrders = true) (hn : a0.tmps.size = n) (hB : relyB ops n 0 ops.toList.dropLast D = true)
    (hlast : lastB ops last ops.toList.dropLast.length = true) (hg : last.guard = none)
    (ht : ∀ a b c : World, T a b → T b c → T a c) (hd : T w0 w0.drew) (hJ : J (Array.replicate ops.size false) a0 w0.drew) (hl : ops.toList.dropLast.length ≤ V.length)
    (hA : relyAllL P ops Q T V J a0 w0 0 ops.toList.dropLast D V) (hE : ∀ w, T w0 w → relyEnd (fun _ a w => (∃ li : Array Bool, (∀ j, j < ops.toList.dropLast.length → li.getD j false = true) ∧ J li a w) → last.wp P a w (fun a' w' => Q .normal a' w') Q) T ops.toList.dropLast V a0 w) : (Code.region id ops true).wp P Q a0 w0 := by
  have hsplit := split_last hla
  obtain ⟨_, hsz, _⟩ := last_at hsplit
  refine wp_region_any hm ?_
  exact wpAny_relyL (fun _ _ _ _ _ h => h) hsplit hn hB hlast hg ht hl hA hE ops.size _ a0 w0.drew unl_start (by
    have hlt : ops.toList.dropLast.length < ops.size := by omega
    generalize ops.toList.dropLast.length = m at hlt
    simp [hlt]) (rely_start hd) hJ
end
end Go.Proofs.YtchpmdcacpjojaaDoor
/- Regions in which a state turns and a variable is made; elements of lists of acts and calls where they lie. -/
namespace Go.Proofs.YtchpmdcacpjojaaDoor
open Go Go.RowKit
set_option maxRecDepth 8000
set_option linter.all false
/-- A step that keeps what was there in W, but blocks from lo to below hi. -/
structure PW (W : World) (lo hi : Nat) (w w' : World) : Prop where
  below : Below lo w w'
  high : ∀ k, hi ≤ k → k < W.heap.size → w'.heap[k]? = w.heap[k]?
section
variable {W : World} {lo hi : Nat}
theorem PW.refl (w : World) : PW W lo hi w w := ⟨Below.refl _ _, fun _ _ _ => rfl⟩
theorem PW.trans (a b c : World) (h : PW W lo hi a b) (k : PW W lo hi b c) : PW W lo hi a c := ⟨h.below.trans k.below, fun i h1 h2 => (k.high i h1 h2).trans (h.high i h1 h2)⟩
theorem PW.drew (w : World) : PW W lo hi w w.drew := ⟨(Below.refl _ _).drew, fun _ _ _ => rfl⟩
theorem PW.new {w w' : World} (h : PW W lo hi W w) (hN : NewT w w') (hl : lo ≤ W.heap.size) : PW W lo hi w w' := ⟨hN.out.mono (Nat.le_trans hl h.below.size), fun k _ h2 => hN.out.block k (Nat.lt_of_lt_of_le h2 h.below.size)⟩
theorem PW.pt {w w' : World} (h : PW W lo hi W w) (hP : PT lo hi w w') : PW W lo hi w w' := ⟨hP.below, fun k h1 h2 => hP.high k (Nat.lt_of_lt_of_le h2 h.below.size) h1⟩
theorem PW.store {w w' : World} (h : PW W lo hi W w) {b : Nat} (hb : W.heap.size ≤ b) (hl : lo ≤ W.heap.size) (hR : RT b w w') : PW W lo hi w w' := ⟨hR.below.mono (by omega), fun k _ h2 => hR.below.block k (by omega)⟩
theorem PW.end {w : World} (h : PW W lo hi W w) : PT lo hi W w := ⟨h.below, fun k h1 h2 => h.high k h2 h1⟩
theorem PW.block {w : World} (h : PW W lo hi W w) {k : Nat} (hk : k < W.heap.size) (hd : k < lo ∨ hi ≤ k) : w.heap[k]? = W.heap[k]? := h.end.block hk hd
theorem PW.row {w : World} (h : PW W lo hi W w) {b n : Nat} {t : TypeId} {F : Nat → Value} (hr : W.rowIs b t n F) (hd : b < lo ∨ hi ≤ b) : w.rowIs b t n F := row_of (h.block hr.lt hd) hr
theorem PW.cell {w : World} (h : PW W lo hi W w) {b o : Nat} {v : Value} (hc : W.cell? ⟨b, o, none⟩ = some v) (hd : b < lo ∨ hi ≤ b) : w.cell? ⟨b, o, none⟩ = some v := (cell_of (h.block (cell_lt hc) hd)).trans hc
theorem PW.tables {w : World} (h : PW W lo hi W w) (hT : Tables W) (hl : 2 ≤ lo) : Tables w := h.end.tables hT hl
end
theorem gset (li : Array Bool) {i j : Nat} (h : i ≠ j) : (li.setIfInBounds i true).getD j false = li.getD j false := getD_set_ne false h
theorem gset_same (li : Array Bool) {i : Nat} (h : i < li.size) : (li.setIfInBounds i true).getD i false = true := by simp [h]
/-- The state: A, and B once operation ic is done; the variable of slot p, once ia is done; what it holds, once 'is' is done. -/
structure JL (ic ia is p : Nat) (A B : World → Prop) (W : World) (t n : Nat) (G : Nat → Value) (li : Array Bool) (a : Act) (w : World) : Prop where
  pre : li.getD ic false = false → A w
  post : li.getD ic false = true → B w
  ord : li.getD is false = true → li.getD ia false = true
  var : li.getD ia false = true → ∀ b, a.tmps.getD p undef = .pointer (some ⟨b, 0, none⟩) → W.heap.size ≤ b ∧ ∃ F, w.rowIs b t n F ∧ (li.getD is false = true → F = G)
section
variable {ic ia is p : Nat} {A B : World → Prop} {W : World} {t n : Nat} {G : Nat → Value} {li : Array Bool} {a : Act} {w w' : World} {d : Option Tmp} {v : Value}
theorem put_ne {a : Act} {d : Option Tmp} {p : Nat} {v : Value} (hd : d ≠ some p) : (a.put d v).tmps.getD p undef = a.tmps.getD p undef := by
  cases d with
  | none => rfl
  | some q =>
    have hne : q ≠ p := fun e => hd (by rw [e])
    simp [Act.put, Array.getElem?_setIfInBounds_ne hne]
theorem JL.start (h : A w) (m : Nat) : JL ic ia is p A B W t n G (Array.replicate m false) a w :=
  ⟨fun _ => h, fun h => (by rw [getD_replicate_false] at h; cases h), fun h => (by rw [getD_replicate_false] at h; cases h), fun h => (by rw [getD_replicate_false] at h; cases h)⟩
theorem JL.other (h : JL ic ia is p A B W t n G li a w) {i : Nat} (hi : i ≠ ic ∧ i ≠ ia ∧ i ≠ is) (hd : d ≠ some p) (hA : A w → A w') (hB : B w → B w') (hr : ∀ b F, W.heap.size ≤ b → w.rowIs b t n F → w'.rowIs b t n F) : JL ic ia is p A B W t n G (li.setIfInBounds i true) (a.put d v) w' := by
  obtain ⟨h1, h2, h3⟩ := hi
  refine ⟨?_, ?_, ?_, ?_⟩
  · rw [gset _ h1]; exact fun k => hA (h.pre k)
  · rw [gset _ h1]; exact fun k => hB (h.post k)
  · rw [gset _ h2, gset _ h3]; exact h.ord
  · rw [gset _ h2, gset _ h3]
    intro k b e1
    obtain ⟨e2, F, e3, e4⟩ := h.var k b ((put_ne hd).symm.trans e1)
    exact ⟨e2, F, hr b F e2 e3, e4⟩
theorem JL.new (h : JL ic ia is p A B W t n G li a w) {i : Nat} (hi : i ≠ ic ∧ i ≠ ia ∧ i ≠ is) (hd : d ≠ some p) (hN : NewT w w') (hA : A w → A w') (hB : B w → B w') : JL ic ia is p A B W t n G (li.setIfInBounds i true) (a.put d v) w' := h.other hi hd hA hB fun _ _ _ hr => hN.row hr
theorem JL.alloc {ops : Array Oper} (h : JL ic ia is p A B W t n G li a w) (hx : LNext ops ia li) (hne : ia ≠ ic ∧ ia ≠ is) {F0 : Nat → Value} (hW : W.heap.size ≤ w.heap.size) (hA : A w → A (w.alloc (.cells (rowA n F0) t))) (hB : B w → B (w.alloc (.cells (rowA n F0) t))) : JL ic ia is p A B W t n G (li.setIfInBounds ia true) (a.put (some p) (.pointer (some ⟨w.heap.size, 0, none⟩))) (w.alloc (.cells (rowA n F0) t)) := by
  have hs : li.getD is false = false := by
    cases hc : li.getD is false with
    | false => rfl
    | true => have := h.ord hc; rw [hx.no] at this; cases this
  refine ⟨?_, ?_, ?_, ?_⟩
  · rw [gset _ hne.1]; exact fun k => hA (h.pre k)
  · rw [gset _ hne.1]; exact fun k => hB (h.post k)
  · rw [gset _ hne.2, hs]; exact fun k => by cases k
  · rw [gset _ hne.2, hs]
    intro _ b hb
    have hs : b = w.heap.size := by
      by_cases hp : p < a.tmps.size
      · simp [Act.put, hp] at hb; exact hb.symm
      · simp [Act.put, hp] at hb; cases hb
    subst hs
    exact ⟨hW, F0, rowIs_box w t n F0, fun k => by cases k⟩
theorem JL.call {ops : Array Oper} (h : JL ic ia is p A B W t n G li a w) (hx : LNext ops ic li) (hne : ic ≠ ia ∧ ic ≠ is) (hd : d ≠ some p) (hB : B w') (hr : ∀ b F, W.heap.size ≤ b → w.rowIs b t n F → w'.rowIs b t n F) : JL ic ia is p A B W t n G (li.setIfInBounds ic true) (a.put d v) w' := by
  refine ⟨?_, fun _ => hB, ?_, ?_⟩
  · rw [gset_same _ hx.lt]; exact fun k => by cases k
  · rw [gset _ hne.1, gset _ hne.2]; exact h.ord
  · rw [gset _ hne.1, gset _ hne.2]
    intro k b e1
    obtain ⟨e2, F, e3, e4⟩ := h.var k b ((put_ne hd).symm.trans e1)
    exact ⟨e2, F, hr b F e2 e3, e4⟩
theorem JL.store {ops : Array Oper} {b : Nat} (h : JL ic ia is p A B W t n G li a w) (hx : LNext ops is li) (hne : is ≠ ic ∧ is ≠ ia) (hia : li.getD ia false = true) (h1 : a.tmps.getD p undef = .pointer (some ⟨b, 0, none⟩)) (h2 : W.heap.size ≤ b) (h3 : w'.rowIs b t n G) (hA : A w → A w') (hB : B w → B w') : JL ic ia is p A B W t n G (li.setIfInBounds is true) (a.put none v) w' := by
  refine ⟨?_, ?_, ?_, ?_⟩
  · rw [gset _ hne.1]; exact fun k => hA (h.pre k)
  · rw [gset _ hne.1]; exact fun k => hB (h.post k)
  · rw [gset _ hne.2]; exact fun _ => hia
  · rw [gset _ hne.2]
    intro _ b' hb'
    have e : a.tmps.getD p undef = .pointer (some ⟨b', 0, none⟩) := hb'
    rw [h1] at e
    cases e
    exact ⟨h2, G, h3, fun _ => rfl⟩
theorem JL.at {g m : Nat} (h : ∃ li : Array Bool, (∀ j, j < m → li.getD j false = true) ∧ JL ic ia is p A B W t n G li a w) (hm : ic < m ∧ ia < m ∧ is < m) (hg : a.tmps.getD p undef = .pointer (some ⟨g, 0, none⟩)) : B w ∧ W.heap.size ≤ g ∧ w.rowIs g t n G := by
  obtain ⟨li, hl, hJ⟩ := h
  obtain ⟨e2, F, e3, e4⟩ := hJ.var (hl _ hm.2.1) g hg
  obtain rfl := e4 (hl _ hm.2.2)
  exact ⟨hJ.post (hl _ hm.1), e2, e3⟩
end
theorem JL.atc {ic ia is p m : Nat} {A B : World → Prop} {W : World} {t n : Nat} {G : Nat → Value} {a : Act} {w : World} (h : ∃ li : Array Bool, (∀ j, j < m → li.getD j false = true) ∧ JL ic ia is p A B W t n G li a w) (hm : ic < m) : B w := by
  obtain ⟨li, hl, hJ⟩ := h
  exact hJ.post (hl _ hm)
theorem acF_c (x : Ac) (j : Nat) (h : j < 41) : acF x (1 + j) = clF x.c j := by unfold acF; rw [if_neg (by omega), if_pos (by omega), show 1 + j - 1 = j by omega]
section
variable {a : Act} {w : World} {o : Oper} {K : Act → World → Prop} {Q : Exit → Act → World → Prop} {x y : Operand} {g o0 : Nat}
theorem opr_idxB {P : Program} {sT eT : TypeId} {n b off m c i : Nat} {z : Int} (T : ElTy P sT eT n) (hi : i < m) (hz : z = (i : Int)) (ho : o.op = .indexAddr sT x y) (hx : a.eval x = .slice (some ⟨b, off, none⟩) m c) (hy : a.eval y = .int .i64 z) (h : K (a.put o.dst (.pointer (some ⟨b, off + i * n, none⟩))) w) : o.wp P a w K Q := by
  subst hz
  obtain ⟨dst, op, type, pos, after, guard⟩ := o
  simp only at ho
  subst ho
  exact opr_val (s := Instr.indexAt sT (a.eval x) (a.eval y)) rfl (by rw [hx, hy, run_idxE T w hi]) h
theorem opr_fldAc0 (ho : o.op = .fieldAddr 44 x 0) (hx : a.eval x = .pointer (some ⟨g, o0, none⟩)) (h : K (a.put o.dst (.pointer (some ⟨g, o0, none⟩))) w) : o.wp Tryd.prog a w K Q :=
  opr_fld Tryd.underlying44 rfl info_int ho hx (by rfl) h
theorem opr_fldAc1 (ho : o.op = .fieldAddr 44 x 1) (hx : a.eval x = .pointer (some ⟨g, o0, none⟩)) (h : K (a.put o.dst (.pointer (some ⟨g, o0 + 1, none⟩))) w) : o.wp Tryd.prog a w K Q :=
  opr_fld Tryd.underlying44 rfl info_cl1 ho hx (by rfl) h
theorem opr_fldAc2 (ho : o.op = .fieldAddr 44 x 2) (hx : a.eval x = .pointer (some ⟨g, o0, none⟩)) (h : K (a.put o.dst (.pointer (some ⟨g, o0 + 42, none⟩))) w) : o.wp Tryd.prog a w K Q :=
  opr_fld Tryd.underlying44 rfl info_bool ho hx (by rfl) h
theorem opr_ldClC {c : Cl} (hc : ∀ j, j < 41 → w.cell? ⟨g, o0 + j, none⟩ = some (clF c j)) (ho : o.op = .load 34 x) (hx : a.eval x = .pointer (some ⟨g, o0, none⟩)) (h : K (a.put o.dst (.agg (rowA 41 (clF c)))) w) : o.wp Tryd.prog a w K Q := by
  obtain ⟨dst, op, type, pos, after, guard⟩ := o
  simp only at ho
  subst ho
  exact opr_val (s := Instr.loadAt 34 (a.eval x)) rfl (by rw [hx]; exact run_ldE callEl hc) h
end
section
variable {a : Act} {w : World} {o : Oper} {K : Act → World → Prop} {Q : Exit → Act → World → Prop} {x y : Operand}
theorem opr_ldEe {e : En} (ho : o.op = .load 56 x) (hx : (svEl 4 eyE e).pred (a.eval x) w) (h : K (a.put o.dst (.agg (rowA 4 (eyF e)))) w) : o.wp Tryd.prog a w K Q :=
  opr_ldL entEl ho hx (fun v ⟨f, hv, hf⟩ => by subst hv hf; exact h)
end
/-- Where an act lies. -/
theorem acts_at {w : World} {v : Value} {l : List Ac} (h : RdL 43 acE w v l) {k : Nat} {x : Ac} (hk : l[k]? = some x) : ∃ b o c, v = .slice (some ⟨b, o, none⟩) l.length c ∧ ∀ j, j < 43 → w.cell? ⟨b, o + k * 43 + j, none⟩ = some (acF x j) := by
  obtain ⟨fs, ⟨A, c, hv, h1, h2, h3⟩, h4, h5⟩ := h
  obtain ⟨f, hf, rfl⟩ := h5 k x hk
  obtain ⟨b, o, rfl, hc⟩ := h3 (Nat.lt_of_le_of_lt (Nat.zero_le _) (List.getElem?_eq_some_iff.1 hf).1)
  exact ⟨b, o, c, by rw [hv, h4], fun j hj => hc k _ hf j hj⟩
end Go.Proofs.YtchpmdcacpjojaaDoor
/- The laws' question whether package keys answers as the document's example. -/
namespace Go.Proofs.YtchpmdcacpjojaaDoor
open Go Go.RowKit
set_option maxRecDepth 8000
set_option linter.all false
set_option maxHeartbeats 1000000 in
theorem Few_cv (w : World) : Cv 23 #[] w (svKeys [oneH 1, oneH 2] [oneH 3, oneH 4, oneH 5] 2) := by
  unfold Cv
  go_enter Tryd.func23, Tryd.ntmps23
  go_upto_region 1 with fail
  have r0 := rowIs_box w 24 3 (keyF (.slice none 0 0) (.slice none 0 0) 0)
  have hN := NewT.alloc w (.cells (rowA 3 (keyF (.slice none 0 0) (.slice none 0 0) 0)) 24)
  change Code.wp _ _ _ _ (w.alloc (.cells (rowA 3 (keyF (.slice none 0 0) (.slice none 0 0) 0)) 24))
  generalize w.alloc (.cells (rowA 3 (keyF (.slice none 0 0) (.slice none 0 0) 0)) 24) = W0 at r0 hN ⊢
  have R0 := Lib.hid r0
  have HN := Lib.hid hN
  clear r0 hN
  refine wp_region_steps0 NewT [SV.eq (.agg (rowA 32 (bF (oneH 1)))), SV.eq (.agg (rowA 32 (bF (oneH 2)))), svH ([oneH 1, oneH 2]), SV.eq (.agg (rowA 32 (bF (oneH 3)))), SV.eq (.agg (rowA 32 (bF (oneH 4)))), SV.eq (.agg (rowA 32 (bF (oneH 5)))), svH ([oneH 3, oneH 4, oneH 5]), svKeys [oneH 1, oneH 2] [oneH 3, oneH 4, oneH 5] 2] [([], none), ([], none), ([(1, some 0), (2, some 1)], none), ([], none), ([], none), ([], none), ([(4, some 3), (5, some 4), (6, some 5)], none), ([(3, some 2), (7, some 6)], none)] 9 8 rfl rfl (by kernel_rfl) NewT.trans (NewT.refl _) (Nat.le_of_ble_eq_true rfl) ⟨?_, ?_, ?_, ?_, ?_, ?_, ?_, ?_, trivial⟩ ?_
  · intro a wx hT hF K hK
    refine rely_wp rfl ?_
    exact opr_build (pv := #[(0, .int .u8 1)]) rfl (by simp only [List.map_toArray, List.map_cons, List.map_nil, eval_const]) (run_bld_one 1 wx) (hK _ _ (NewT.refl _) rfl)
  · intro a wx hT hF K hK
    refine rely_wp rfl ?_
    exact opr_build (pv := #[(0, .int .u8 2)]) rfl (by simp only [List.map_toArray, List.map_cons, List.map_nil, eval_const]) (run_bld_one 2 wx) (hK _ _ (NewT.refl _) rfl)
  · exact fun a wx hT hF K hK => rely_wp rfl (opr_bsH2 rfl hF.1 hF.2.1 hK)
  · intro a wx hT hF K hK
    refine rely_wp rfl ?_
    exact opr_build (pv := #[(0, .int .u8 3)]) rfl (by simp only [List.map_toArray, List.map_cons, List.map_nil, eval_const]) (run_bld_one 3 wx) (hK _ _ (NewT.refl _) rfl)
  · intro a wx hT hF K hK
    refine rely_wp rfl ?_
    exact opr_build (pv := #[(0, .int .u8 4)]) rfl (by simp only [List.map_toArray, List.map_cons, List.map_nil, eval_const]) (run_bld_one 4 wx) (hK _ _ (NewT.refl _) rfl)
  · intro a wx hT hF K hK
    refine rely_wp rfl ?_
    exact opr_build (pv := #[(0, .int .u8 5)]) rfl (by simp only [List.map_toArray, List.map_cons, List.map_nil, eval_const]) (run_bld_one 5 wx) (hK _ _ (NewT.refl _) rfl)
  · exact fun a wx hT hF K hK => rely_wp rfl (opr_bsH3 rfl hF.1 hF.2.1 hF.2.2.1 hK)
  · exact fun a wx hT hF K hK => rely_wp rfl (opr_bldY rfl hF.1 hF.2.1 (fun u hu => hK u _ (NewT.refl _) hu))
  · intro wx hT
    iterate 2 (intro u h; obtain rfl := Eq.symm (h (by simp)); clear h)
    intro _ _
    iterate 3 (intro u h; obtain rfl := Eq.symm (h (by simp)); clear h)
    intro _ _
    intro u8 h; have g8 := h (by simp); clear h; replace g8 := show (svKeys [oneH 1, oneH 2] [oneH 3, oneH 4, oneH 5] 2).pred u8 wx from g8
    refine relyEnd_nil rfl ?_
    simp only [Act.put, List.setIfInBounds_toArray, List.set_cons_zero, List.set_cons_succ]
    obtain ⟨pv, wv, rfl, hpv, hwv⟩ := g8
    have q0 := hT.row R0.out
    refine wpList_plain rfl (fun K hK => ?_)
    refine opr_putm (g := w.heap.size) (o0 := 0) (m := 3) (f := keyF pv wv 2) (F := keyF pv wv 2) rfl rfl rfl q0 (by decide) info_ky (keyF_one hpv hwv) (fun i hi => by rw [if_pos (by omega), Nat.sub_zero]) ?_
    intro w9 hR9 r9
    refine hK _ _ ?_
    refine wpList_end rfl ?_
    simp only [Act.put, List.setIfInBounds_toArray, List.set_cons_zero, List.set_cons_succ]
    go_simp
    go_wp2
    exact bodyPost_ret (results_agg rfl _ rfl r9 Tryd.underlying24 rfl info_ky) rfl ⟨_, rfl, NewT.rt (NewT.trans _ _ _ HN.out hT) hR9 (Nat.le_refl _), pv, wv, rfl, hpv.apart q0 (fun i z => keyF_no _ _ _ _ _ _ _ i z) hR9, hwv.apart q0 (fun i z => keyF_no _ _ _ _ _ _ _ i z) hR9⟩

section
variable {kf : Hs → List Int → Hs} {tg : Hs → Hs → Hs} {pf : Int → Hs → Hs}
end
end Go.Proofs.YtchpmdcacpjojaaDoor
/- What the reference asks of keys is what may be; bytes put behind such as have no room behind them. -/
namespace Go.Proofs.YtchpmdcacpjojaaDoor
open Go Go.RowKit
set_option maxRecDepth 8000
set_option linter.all false
section
variable {a : Act} {w : World} {o : Oper} {K : Act → World → Prop} {Q : Exit → Act → World → Prop} {x y : Operand}
end
section
variable (ps ws : List Hs) (need part epoch wit size : Int)
theorem may_ref : (((((decide (1 ≤ (List.length ps : Int)) && decide ((List.length ps : Int) ≤ 4)) && decide (1 ≤ (List.length ws : Int))) && decide ((List.length ws : Int) ≤ 4)) && decide (1 ≤ need)) && decide (need ≤ (List.length ws : Int))) = mayB ps ws need := by
  unfold mayB inR; simp only [Bool.and_assoc]
theorem known_ref : ((((mayB ps ws need && decide (0 ≤ part)) && decide (part < (List.length ps : Int))) && decide (0 ≤ epoch)) && decide (epoch ≤ 400)) = hasB ps ws need part epoch := by
  rw [Bool.eq_iff_iff, hasB_iff]
  simp only [Bool.and_eq_true, decide_eq_true_iff]
  constructor
  · rintro ⟨⟨⟨⟨a, b⟩, c⟩, d⟩, e⟩; exact ⟨a, ⟨b, c⟩, d, e⟩
  · rintro ⟨a, ⟨b, c⟩, d, e⟩; exact ⟨⟨⟨⟨a, b⟩, c⟩, d⟩, e⟩
end
end Go.Proofs.YtchpmdcacpjojaaDoor
/- A row of bytes of a call's own, and appends to it. -/
namespace Go.Proofs.YtchpmdcacpjojaaDoor
open Go Go.RowKit
set_option maxRecDepth 8000
set_option linter.all false
/-- A row of bytes of a call's own, from W on. -/
def svOwn (W : World) (l : List UInt8) : SV NewT := ⟨fun v w => w.ownsRow W.heap.size 5 1 v l.length (l.map fun b => .int .u8 (bN b)), fun v w w' h hT => by
  obtain ⟨a, b⟩ := h
  refine ⟨a, ?_⟩
  rcases b with b | ⟨g, cap, cur, rfl, hb, hg, r⟩
  · exact .inl b
  · have hlt : g < w.heap.size := by
      rcases Nat.lt_or_ge g w.heap.size with h | h
      · exact h
      · rw [Array.getElem?_eq_none h] at hg; cases hg
    exact .inr ⟨g, cap, cur, rfl, hb, (hT.out.block g hlt).trans hg, r⟩⟩
/-- Bytes put behind a row of the call's own: the row reads as both, and nothing below turns. -/
theorem run_append_two {W W0 : World} {v u : Value} {l m : List UInt8} (ho : (svOwn W0 l).pred v W) (hW : W0.heap.size ≤ W.heap.size) (hr : RdV W [] u m) (hn : l.length + m.length ≤ 900000) (ty : TypeId) :
    ∃ v' w', (Builtin.append_ #[49, 49] ty #[v, u]).run Tryd.prog W = .ok v' w' ∧ (svOwn W0 (l ++ m)).pred v' w' ∧ RdV w' [] v' (l ++ m) ∧ Below W0.heap.size W w' := by
  obtain ⟨i0, hi, hz0, hz1, hz2⟩ := info_parts info5
  obtain ⟨v', w', h1, h2, h3⟩ := run_append_rd (P := Tryd.prog) (ty := ty) Tryd.underlying49 hi hz0 hz1 hz2 ho hr (by omega) hW
  have e : l.map (fun b => Value.int .u8 (bN b)) ++ m.map (fun b => Value.int .u8 (bN b)) = (l ++ m).map fun b => Value.int .u8 (bN b) := by simp
  rw [e] at h2
  refine ⟨v', w', h1, ?_, rdV_own h2 (by simp) (by simp), (Below.refl _ W).grown h3 hW (fun k hk => (World.ownsRow.lt ho k hk).1)⟩
  show w'.ownsRow W0.heap.size 5 1 v' (l ++ m).length _
  rw [List.length_append]; exact h2
theorem own_from {W W1 : World} {l : List UInt8} {v : Value} {w : World} (hT : NewT W W1) (h : (svOwn W1 l).pred v w) : (svOwn W l).pred v w := by
  obtain ⟨a, b⟩ := h
  refine ⟨a, ?_⟩
  rcases b with b | ⟨g, cap, cur, hv, hb, r⟩
  · exact .inl b
  · exact .inr ⟨g, cap, cur, hv, Nat.le_trans hT.out.size hb, r⟩
end Go.Proofs.YtchpmdcacpjojaaDoor
/- Layer 2's statements' own functions and the reference's: great; with (a key's mask). -/
namespace Go.Proofs.YtchpmdcacpjojaaDoor
open Go Go.RowKit
set_option maxRecDepth 8000
set_option linter.all false

theorem xor_low (x m : UInt8) (hm : m = 54 ∨ m = 92) : IntKind.u8.wrap (bits .xor .i64 (bN x) (bN m)) = bN (x ^^^ m) := by
  have h1 : ∀ n : Fin 256, IntKind.u8.wrap (bits .xor .i64 (bN (UInt8.ofNat n.val)) (bN 54)) = bN (UInt8.ofNat n.val ^^^ 54) := by decide +kernel
  have h2 : ∀ n : Fin 256, IntKind.u8.wrap (bits .xor .i64 (bN (UInt8.ofNat n.val)) (bN 92)) = bN (UInt8.ofNat n.val ^^^ 92) := by decide +kernel
  have e : UInt8.ofNat x.toNat = x := by simp
  rcases hm with rfl | rfl
  · have := h1 ⟨x.toNat, x.toNat_lt⟩; rwa [e] at this
  · have := h2 ⟨x.toNat, x.toNat_lt⟩; rwa [e] at this
theorem bN_wrap (x : UInt8) : IntKind.i64.wrap (bN x) = bN x := by
  have := bN_lt x
  simp [IntKind.wrap, IntKind.bits, IntKind.signed]; omega
set_option maxHeartbeats 1000000 in
theorem with_any (A : Option Addr) (n c : Nat) (l : List UInt8) (m : UInt8) (hm : m = 54 ∨ m = 92) (w : World) (hr : RdV w [] (.slice A n c) l) :
    Cv 69 #[.slice A n c, .int .i64 (bN m)] w (svOwn w (maskL (bAt l) m)) := by
  unfold Cv
  have hn : l.length = n := by obtain ⟨_, _, hv, _⟩ := hr; cases hv; rfl
  subst hn
  obtain ⟨A', c', hv, hlc, hcm, hcell⟩ := hr
  cases hv
  unfold maxLen at hcm
  have HC := Lib.hid hcell
  have HX := Lib.hid (fun x => xor_low x m hm)
  have HW := Lib.hid bN_wrap
  have hmb := bN_lt m
  generalize hM : bN m = M at hmb
  have HM := Lib.hid hM
  clear hcell hM hm
  obtain ⟨i0, hi, hz0, hz1, hz2⟩ := info_parts info5
  go_enter Tryd.func69, Tryd.ntmps69
  go_wp2
  go_loopw [5, 6] (fun v i wr => ∃ k : Nat, k ≤ 64 ∧ i = .int .i64 k ∧ wr.ownsRow w.heap.size 5 1 v k ((List.range k).map (bF fun i => bAt l i ^^^ m)) ∧ Below w.heap.size w wr) (fun _ i _ => 64 - (intOf i).toNat)
  case atStart => exact ⟨0, by omega, rfl, World.ownsRow_nil _ _ _ _, Below.refl _ _⟩
  case round =>
    obtain ⟨k, hk, rfl, hown, qB⟩ := hrel
    by_cases hlt : k < 64
    · by_cases hkl : k < l.length
      · obtain ⟨b, o, rfl, _, hc⟩ := HC.out (by omega)
        have hcl := (qB.cell (p := ⟨b, o + k, none⟩) (World.block_lt_of_cell? _ _ (hc k hkl))).trans (hc k hkl)
        have hx := HX.out (bAt l k)
        rw [HM.out] at hx
        have hwr := HW.out (bAt l k)
        have hbk := bN_lt (bAt l k)
        go_wp2_with (at_builtin; refine wpList_append_own _ rfl (.tmp 21) (.tmp 26) 49 rfl w.heap.size 5 i0 _ 1 1 Tryd.underlying49 hi hz0 hz1 hz2 rfl (by omega) u5 k _ rfl (hown.alloc _) ⟨wr.heap.size, 0, none⟩ 1 1 [bF (fun i => bAt l i ^^^ m) k] rfl rfl (one_cell _ _ _) (by simp [bF, Value.oneCell']) (by unfold maxLen; omega) (by omega) (by have := qB.size; simp; omega) ?_; intro v' w1 hown' hg1 _)
        go_roundw
        case rel =>
          refine ⟨k + 1, by omega, by go_num, ?_, (qB.alloc qB.size _).grown hg1 (by have := qB.size; simp; omega) (fun g e => (hown.lt g e).1)⟩
          rw [List.range_succ, List.map_append]
          exact hown'
        case measure => simp [intOf]; omega
      · have hz : bAt l k = 0 := by simp [bAt, hkl]
        have hx := HX.out 0
        rw [HM.out] at hx
        have hx0 : IntKind.u8.wrap (bits .xor .i64 0 M) = bN (bAt l k ^^^ m) := by rw [hz]; exact hx
        clear hx hz
        go_wp2_with (at_builtin; refine wpList_append_own _ rfl (.tmp 21) (.tmp 26) 49 rfl w.heap.size 5 i0 _ 1 1 Tryd.underlying49 hi hz0 hz1 hz2 rfl (by omega) u5 k _ rfl (hown.alloc _) ⟨wr.heap.size, 0, none⟩ 1 1 [bF (fun i => bAt l i ^^^ m) k] rfl rfl (one_cell _ _ _) (by simp [bF, Value.oneCell']) (by unfold maxLen; omega) (by omega) (by have := qB.size; simp; omega) ?_; intro v' w1 hown' hg1 _)
        go_roundw
        case rel =>
          refine ⟨k + 1, by omega, by go_num, ?_, (qB.alloc qB.size _).grown hg1 (by have := qB.size; simp; omega) (fun g e => (hown.lt g e).1)⟩
          rw [List.range_succ, List.map_append]
          exact hown'
        case measure => simp [intOf]; omega
    · obtain rfl : k = 64 := by omega
      go_wp2
      go_ret
      refine ⟨_, rfl, qB, ?_⟩
      have e : (maskL (bAt l) m).map (fun b => Value.int .u8 (bN b)) = (List.range 64).map (bF fun i => bAt l i ^^^ m) := by
        unfold maskL; rw [List.map_map]; rfl
      show wr.ownsRow w.heap.size 5 1 _ (maskL (bAt l) m).length _
      rw [maskL_length, e]
      exact hown
end Go.Proofs.YtchpmdcacpjojaaDoor
/- The reference's Number: a number's low bytes, so many, the highest first. -/
namespace Go.Proofs.YtchpmdcacpjojaaDoor
open Go Go.RowKit
set_option maxRecDepth 8000
set_option linter.all false

/-- From place q on the bytes stand. -/
def lowTo (f : Nat → UInt8) (q p : Nat) : UInt8 := if q ≤ p then f p else 0
theorem lowTo_set (f : Nat → UInt8) (q p : Nat) (z : Int) (hz : z = bN (f q)) : (if p = q then Value.int .u8 z else bF (lowTo f (q + 1)) p) = bF (lowTo f q) p := by
  subst hz
  simp only [bF, lowTo]
  by_cases h : p = q
  · subst h; simp
  · by_cases h2 : q ≤ p
    · rw [if_neg h, if_pos (by omega), if_pos h2]
    · rw [if_neg h, if_neg (by omega), if_neg h2]
theorem hiB_low (n s q : Nat) (hq : q < s) : ((n / 2 ^ (8 * (s - (q + 1))) : Nat) : Int) % 256 = bN (hiB n s q) := by
  rw [hiB, bN, UInt8.toNat_ofNat', show s - (q + 1) = s - 1 - q by omega]
  omega
theorem div_next (n s q : Nat) (hq : q < s) : ((n / 2 ^ (8 * (s - (q + 1))) : Nat) : Int) / 256 = ((n / 2 ^ (8 * (s - q)) : Nat) : Int) := by
  rw [show 8 * (s - q) = 8 * (s - (q + 1)) + 8 by omega, Nat.pow_add, ← Nat.div_div_eq_div_mul]
  omega
set_option maxHeartbeats 1000000 in
theorem RNumber_any (n : Int) (s : Nat) (hs : 1 ≤ s) (hs2 : s ≤ 8) (w : World) :
    Cv 54 #[.int .i64 n, .int .i64 (s : Int)] w (svRdN w (hiL (wN n) s)) := by
  unfold Cv
  obtain ⟨i0, hi, hz0, hz1, hz2⟩ := info_parts info5
  have hmk : ∀ W : World, (Instr.makeSlice 49 (.int .i64 (s : Int)) (.int .i64 (s : Int))).run Tryd.prog W = .ok (.slice (some ⟨W.heap.size, 0, none⟩) s s) (W.alloc (.cells (rowA s (bF fun _ => 0)) 5)) := make_bytes i0 hi hz0 hz1 hz2 s (by omega)
  have hw : IntKind.u64.wrap n = (wN n : Int) := wN_eq n
  have hwl : wN n < 18446744073709551616 := by unfold wN; omega
  obtain ⟨M, hM⟩ : ∃ M, wN n = M := ⟨_, rfl⟩
  rw [hM] at hw hwl
  rw [hM]
  clear hi hz0 hz1 hz2 hM
  go_enter Tryd.func54, Tryd.ntmps54
  go_wp2
  clear hw
  have r0 := rowIs_box w 5 s (bF fun _ => 0)
  have hB : Below w.heap.size w (w.alloc (.cells (rowA s (bF fun _ => 0)) 5)) := (Below.refl _ w).alloc (Nat.le_refl _) _
  generalize w.alloc (.cells (rowA s (bF fun _ => 0)) 5) = W0 at r0 hB ⊢
  clear hmk
  go_loopw [6, 7] (fun u i wr => ∃ q : Nat, q ≤ s ∧ u = .int .u64 ((M / 2 ^ (8 * (s - q)) : Nat) : Int) ∧ i = .int .i64 ((q : Int) - 1) ∧ wr.rowIs w.heap.size 5 s (bF (lowTo (hiB M s) q)) ∧ Below w.heap.size w wr) (fun _ i _ => (intOf i + 1).toNat)
  case atStart => exact ⟨s, Nat.le_refl _, by simp, rfl, r0.congr fun p hp => by simp only [bF, lowTo]; rw [if_neg (by omega)], hB⟩
  case round =>
    obtain ⟨q, hq, rfl, rfl, q0, qB⟩ := hrel
    clear r0 hB
    cases q with
    | succ q =>
      rw [show ((q + 1 : Nat) : Int) - 1 = (q : Int) by omega]
      have hb1 := hiB_low M s q (by omega)
      have hb2 := div_next M s q (by omega)
      have hle : M / 2 ^ (8 * (s - (q + 1))) < 18446744073709551616 := Nat.lt_of_le_of_lt (Nat.div_le_self _ _) hwl
      generalize M / 2 ^ (8 * (s - (q + 1))) = m1 at hb1 hb2 hle
      generalize hm2 : M / 2 ^ (8 * (s - q)) = m2 at hb2
      have Hb1 := Lib.hid hb1
      have Hb2 := Lib.hid hb2
      have Hm2 := Lib.hid hm2
      clear hb1 hb2 hm2
      have c0 := q0.cell (i := q) (by omega)
      have f0 := q0.frozen q
      go_wp2
      go_roundw
      case rel =>
        refine ⟨q, by omega, ?_, by go_num, (q0.set q _).congr fun p _ => lowTo_set _ q p _ ?_, qB.setCell (by simp) _⟩
        · rw [Hm2.out, ← Hb2.out]
        · exact Hb1.out
      case measure => simp [intOf]
    | zero =>
      go_wp2
      go_ret
      refine ⟨_, rfl, qB, fun L hL => ?_⟩
      have := rd_row (L := L) q0 (fun hm => by have := hL _ hm; omega) (by omega)
      have e : (List.range s).map (lowTo (hiB M s) 0) = hiL M s := List.map_congr_left fun i hi => by simp [lowTo]
      rw [e] at this
      exact this
theorem RNumber_8 (n : Int) (w : World) : Cv 54 #[.int .i64 n, .int .i64 8] w (svRdN w (hiL (wN n) 8)) := RNumber_any n 8 (by omega) (by omega) w
end Go.Proofs.YtchpmdcacpjojaaDoor
/- The reference's Text: a domain's byte, and of each part how many bytes it has, and these. -/
namespace Go.Proofs.YtchpmdcacpjojaaDoor
open Go Go.RowKit
set_option maxRecDepth 8000
set_option linter.all false
end Go.Proofs.YtchpmdcacpjojaaDoor
/- The reference's Turn. -/
namespace Go.Proofs.YtchpmdcacpjojaaDoor
open Go.RowKit
set_option maxRecDepth 8000
set_option linter.all false
/-- Numbers of 32 bits in cells of 64. -/
def vF (s : Nat → BitVec 32) : Nat → Value := fun i => .int .u64 (uN (s i))
theorem vF_at (s : Nat → BitVec 32) (i : Nat) : vF s i = .int .u64 (uN (s i)) := rfl
theorem wS_final (l : List UInt8) (n i : Nat) (h : i < 16 + n) (hn : n ≤ 48) : wS l 48 i = wS l n i := by
  obtain ⟨k, hk⟩ : ∃ k, 48 = n + k := ⟨48 - n, by omega⟩
  rw [hk]
  clear hk hn
  induction k with
  | zero => rfl
  | succ k ih => rw [← Nat.add_assoc, wS_old l (n + k) i (by omega), ih]
theorem wS_first (l : List UInt8) (i : Nat) (h : i < 16) : wS l 48 i = wordTo l i 4 := by
  rw [wS_final l 0 i (by omega) (by omega)]; simp [wS, schedL, h]
theorem wS_rec (l : List UInt8) (t : Nat) (h1 : 16 ≤ t) (h2 : t < 64) : wS l 48 t = ss1 (wS l 48 (t - 2)) + wS l 48 (t - 7) + ss0 (wS l 48 (t - 15)) + wS l 48 (t - 16) := by
  obtain ⟨n, rfl⟩ : ∃ n, t = 16 + n := ⟨t - 16, by omega⟩
  rw [wS_final l (n + 1) (16 + n) (by omega) (by omega), wS_new, show 16 + n - 2 = n + 14 by omega, show 16 + n - 7 = n + 9 by omega, show 16 + n - 15 = n + 1 by omega, show 16 + n - 16 = n by omega,
    wS_final l n (n + 14) (by omega) (by omega), wS_final l n (n + 9) (by omega) (by omega), wS_final l n (n + 1) (by omega) (by omega), wS_final l n n (by omega) (by omega)]
theorem word_step (x : BitVec 32) (b : UInt8) (hx : x.toNat < 16777216) : (x <<< 8 ||| b.toBitVec.setWidth 32).toNat = x.toNat * 256 + b.toNat := by
  have hb := b.toNat_lt
  have e1 : (x <<< 8).toNat = x.toNat <<< 8 := by rw [BitVec.toNat_shiftLeft, Nat.mod_eq_of_lt]; rw [Nat.shiftLeft_eq]; omega
  have e2 : (b.toBitVec.setWidth 32).toNat = b.toNat := by rw [BitVec.toNat_setWidth]; show b.toNat % _ = _; omega
  rw [BitVec.toNat_or, e1, e2, ← Nat.shiftLeft_add_eq_or_of_lt (by omega), Nat.shiftLeft_eq]
theorem word_num (l : List UInt8) (t : Nat) : uN (wordTo l t 4) = ((bN (bAt l (4 * t)) * 256 + bN (bAt l (4 * t + 1))) * 256 + bN (bAt l (4 * t + 2))) * 256 + bN (bAt l (4 * t + 3)) := by
  have h0 := (bAt l (4 * t)).toNat_lt
  have h1 := (bAt l (4 * t + 1)).toNat_lt
  have h2 := (bAt l (4 * t + 2)).toNat_lt
  have h3 := (bAt l (4 * t + 3)).toNat_lt
  have e1 : (wordTo l t 1).toNat = (bAt l (4 * t)).toNat := by simp [wordTo]
  have e2 : (wordTo l t 2).toNat = (wordTo l t 1).toNat * 256 + (bAt l (4 * t + 1)).toNat := word_step (wordTo l t 1) _ (by omega)
  have e3 : (wordTo l t 3).toNat = (wordTo l t 2).toNat * 256 + (bAt l (4 * t + 2)).toNat := word_step (wordTo l t 2) _ (by omega)
  have e4 : (wordTo l t 4).toNat = (wordTo l t 3).toNat * 256 + (bAt l (4 * t + 3)).toNat := word_step (wordTo l t 3) _ (by omega)
  unfold uN bN
  omega
/-- The first t numbers of a list, the others 0. -/
def cutT (s : Nat → BitVec 32) (t : Nat) : Nat → BitVec 32 := fun i => if i < t then s i else 0
theorem cutT_at (s : Nat → BitVec 32) (t i : Nat) (h : i < t) : cutT s t i = s i := if_pos h
theorem cutT_set (s : Nat → BitVec 32) (t : Nat) (z : Int) (hz : z = uN (s t)) (i : Nat) : (if i = t then Value.int .u64 z else vF (cutT s t) i) = vF (cutT s (t + 1)) i := by
  subst hz
  simp only [vF, cutT]
  by_cases h : i = t
  · subst h; simp
  · by_cases h2 : i < t
    · rw [if_neg h, if_pos h2, if_pos (by omega)]
    · rw [if_neg h, if_neg h2, if_neg (by omega)]
theorem rowIs_zeros64 (s : Nat → BitVec 32) (w : World) (t : TypeId) (n : Nat) : (w.alloc (.cells (Array.replicate n (.int .u64 0)) t)).rowIs w.heap.size t n (vF (cutT s 0)) := by
  have := World.rowIs_alloc w (Array.replicate n (.int .u64 0)) t (vF (cutT s 0)) (fun i hi => by simp at hi; simp [vF, cutT, hi, uN])
  simpa using this
theorem info47 : (Tryd.prog.info? 125).map (·.size) = some 8 := by kernel_rfl
theorem wrap32_uN (x : BitVec 32) : IntKind.u32.wrap (uN x) = uN x := wrap_uN x

attribute [local go_sem] uF_at
attribute [local go_sem] vF_at wrap64_uN wrap32_uN u64_xor u64_and u64_not u64_add2 u64_add3 u64_add4 u64_add5 mod_t2 mod_t4 mod_t5 tmod_t2 tmod_t4 tmod_t5
def RT1 (s : Nat → BitVec 32) (l : List UInt8) (w : World) (t : Nat) (wr : World) : Prop :=
  wr.rowIs w.heap.size 117 8 (uF s) ∧ wr.rowIs (w.heap.size + 1) 117 8 (fun _ => .int .u32 0) ∧ wr.rowIs (w.heap.size + 1 + 1) 123 64 (vF (cutT (wS l 48) t)) ∧ Below w.heap.size w wr
set_option maxRecDepth 20000 in
set_option maxHeartbeats 4000000 in
theorem RTurn_any (K s : Nat → BitVec 32) (l : List UInt8) (b o cap : Nat) (_ : 64 ≤ cap) (_ : cap ≤ maxLen) (w : World) (hb : b < w.heap.size) (h1 : 1 < w.heap.size)
    (hK : ∀ i, i < 64 → w.cell? ⟨1, i, none⟩ = some (.int .u32 (uN (K i))))
    (hc : ∀ i, i < 64 → w.cell? ⟨b, o + i, none⟩ = some (.int .u8 (bN (bAt l i)))) :
    Calls Tryd.prog 78 #[.agg (rowA 8 (uF s)), .slice (some ⟨b, o, none⟩) 64 cap] w fun e w' => e = .returned (.agg (rowA 8 (uF fun i => s i + (runTo K (wS l 48) (ShSt.of s) 64).get i))) ∧ Below w.heap.size w w' := by
  have HK := Lib.hid hK
  have HC := Lib.hid hc
  clear hK hc
  go_enter Tryd.func78, Tryd.ntmps78
  go_wp2
  have r0 := ((rowIs_box w 117 8 (uF s)).alloc (.cells (rowA 8 fun _ => .int .u32 0) 117)).alloc (.cells (Array.replicate 64 (.int .u64 0)) 123)
  have r1 := (rowIs_box (w.alloc (.cells (rowA 8 (uF s)) 117)) 117 8 fun _ => .int .u32 0).alloc (.cells (Array.replicate 64 (.int .u64 0)) 123)
  have r2 := rowIs_zeros64 (wS l 48) ((w.alloc (.cells (rowA 8 (uF s)) 117)).alloc (.cells (rowA 8 fun _ => .int .u32 0) 117)) 123 64
  have hB : Below w.heap.size w (((w.alloc (.cells (rowA 8 (uF s)) 117)).alloc (.cells (rowA 8 fun _ => .int .u32 0) 117)).alloc (.cells (Array.replicate 64 (.int .u64 0)) 123)) :=
    (((Below.refl _ w).alloc (Nat.le_refl _) _).alloc (by simp) _).alloc (by simp; omega) _
  rw [World.size_alloc] at r1 r2
  rw [World.size_alloc] at r2
  change Code.wp _ _ _ _ (((w.alloc (.cells (rowA 8 (uF s)) 117)).alloc (.cells (rowA 8 fun _ => .int .u32 0) 117)).alloc (.cells (Array.replicate 64 (.int .u64 0)) 123))
  generalize (((w.alloc (.cells (rowA 8 (uF s)) 117)).alloc (.cells (rowA 8 fun _ => .int .u32 0) 117)).alloc (.cells (Array.replicate 64 (.int .u64 0)) 123)) = W0 at r0 r1 r2 hB ⊢
  go_loopw [6] (fun i wr => ∃ t : Nat, t ≤ 64 ∧ i = .int .i64 t ∧ RT1 s l w t wr) (fun i _ => 64 - (intOf i).toNat)
  case atStart => exact ⟨0, by omega, rfl, r0, r1, r2, hB⟩
  case round =>
    obtain ⟨t, ht, rfl, q0, q1, q2, qB⟩ := hrel
    clear r0 r1 r2 hB
    by_cases hlt : t < 64
    · by_cases h16 : t < 16
      · have e0 : wr.cell? ⟨b, o + 4 * t, none⟩ = _ := (qB.cell (p := ⟨b, o + (4 * t), none⟩) hb).trans (HC.out (4 * t) (by omega))
        have e1 : wr.cell? ⟨b, o + (4 * t + 1), none⟩ = _ := (qB.cell (p := ⟨b, o + (4 * t + 1), none⟩) hb).trans (HC.out (4 * t + 1) (by omega))
        have e2 : wr.cell? ⟨b, o + (4 * t + 2), none⟩ = _ := (qB.cell (p := ⟨b, o + (4 * t + 2), none⟩) hb).trans (HC.out (4 * t + 2) (by omega))
        have e3 : wr.cell? ⟨b, o + (4 * t + 3), none⟩ = _ := (qB.cell (p := ⟨b, o + (4 * t + 3), none⟩) hb).trans (HC.out (4 * t + 3) (by omega))
        have hz := word_num l t
        obtain ⟨z0, y0, x0⟩ : ∃ z : Nat, z < 256 ∧ bN (bAt l (4 * t)) = (z : Int) := ⟨(bAt l (4 * t)).toNat, UInt8.toNat_lt _, rfl⟩
        obtain ⟨z1, y1, x1⟩ : ∃ z : Nat, z < 256 ∧ bN (bAt l (4 * t + 1)) = (z : Int) := ⟨(bAt l (4 * t + 1)).toNat, UInt8.toNat_lt _, rfl⟩
        obtain ⟨z2, y2, x2⟩ : ∃ z : Nat, z < 256 ∧ bN (bAt l (4 * t + 2)) = (z : Int) := ⟨(bAt l (4 * t + 2)).toNat, UInt8.toNat_lt _, rfl⟩
        obtain ⟨z3, y3, x3⟩ : ∃ z : Nat, z < 256 ∧ bN (bAt l (4 * t + 3)) = (z : Int) := ⟨(bAt l (4 * t + 3)).toNat, UInt8.toNat_lt _, rfl⟩
        rw [x0] at e0 hz
        rw [x1] at e1 hz
        rw [x2] at e2 hz
        rw [x3] at e3 hz
        clear x0 x1 x2 x3
        have Hz := Lib.hid hz
        clear hz
        have j0 : (0 : Int) ≤ 4 * (t : Int) := by omega
        have j1 : (0 : Int) ≤ 4 * (t : Int) + 1 := by omega
        have j2 : (0 : Int) ≤ 4 * (t : Int) + 2 := by omega
        have j3 : (0 : Int) ≤ 4 * (t : Int) + 3 := by omega
        have i0 : 4 * (t : Int) < 64 := by omega
        have i1 : 4 * (t : Int) + 1 < 64 := by omega
        have i2 : 4 * (t : Int) + 2 < 64 := by omega
        have i3 : 4 * (t : Int) + 3 < 64 := by omega
        have it : (t : Int) < 64 := by omega
        have it2 : (t : Int) < 16 := by omega
        have ct := q2.cell (i := t) hlt
        have cf := q2.frozen t
        go_wp2
        refine wp_region_still_tail 35 (by kernel_rfl) (by kernel_rfl) ?_
        simp only [List.take_succ_cons, List.take_zero, List.drop_succ_cons, List.drop_zero]
        repeat (refine wpStill_step (fun K hK => ?_); go_simp; (try go_bits); refine hK _ ?_; clear hK K)
        refine wpStill_nil ?_
        go_wp2
        go_roundw
        case rel => exact ⟨t + 1, by omega, by go_num, q0.drew.setOther (by simp; omega) _, q1.drew.setOther (by simp) _, (q2.drew.set t _).congr fun i _ => cutT_set (wS l 48) t _ (by rw [wS_first l t h16, Hz.out]) i, (qB.setCell (p := ⟨w.heap.size + 1 + 1, t, none⟩) (by simp; omega) _).drew⟩
        case measure => simp [intOf]; omega
      · have c2 := q2.cell (i := t - 2) (by omega)
        have c7 := q2.cell (i := t - 7) (by omega)
        have c15 := q2.cell (i := t - 15) (by omega)
        have c16 := q2.cell (i := t - 16) (by omega)
        rw [vF_at, cutT_at _ _ _ (by omega)] at c2 c7 c15 c16
        have ct := q2.cell (i := t) hlt
        have cf := q2.frozen t
        have hz := wS_rec l t (by omega) hlt
        have Hz := Lib.hid hz
        clear hz
        generalize wS l 48 (t - 2) = y2 at c2 Hz
        generalize wS l 48 (t - 7) = y7 at c7 Hz
        generalize wS l 48 (t - 15) = y15 at c15 Hz
        generalize wS l 48 (t - 16) = y16 at c16 Hz
        have i2 : (2 : Int) ≤ t := by omega
        have j2 : (t : Int) - 2 < 64 := by omega
        have i7 : (7 : Int) ≤ t := by omega
        have j7 : (t : Int) - 7 < 64 := by omega
        have i15 : (15 : Int) ≤ t := by omega
        have j15 : (t : Int) - 15 < 64 := by omega
        have i16 : (16 : Int) ≤ t := by omega
        have j16 : (t : Int) - 16 < 64 := by omega
        have it : (t : Int) < 64 := by omega
        have it2 : ¬ (t : Int) < 16 := by omega
        go_wp2
        refine wp_region_still_lit (by kernel_rfl) (by kernel_rfl) ?_
        repeat (refine wpStill_step (fun K hK => ?_); go_simp; (try go_bits); refine hK _ ?_; clear hK K)
        refine wpStill_nil ?_
        go_wp2
        change Code.wp _ _ _ _ wr.drew
        replace q0 := q0.drew
        replace q1 := q1.drew
        replace q2 := q2.drew
        replace qB := qB.drew
        replace c2 := cell_drew c2
        replace c7 := cell_drew c7
        replace c15 := cell_drew c15
        replace c16 := cell_drew c16
        replace ct := cell_drew ct
        replace cf : wr.drew.frozen? ⟨w.heap.size + 1 + 1, t, none⟩ = false := cf
        generalize wr.drew = wr2 at q0 q1 q2 qB c2 c7 c15 c16 ct cf ⊢
        refine wp_region_still_tail 30 (by kernel_rfl) (by kernel_rfl) ?_
        simp only [List.take_succ_cons, List.take_zero, List.drop_succ_cons, List.drop_zero]
        repeat (refine wpStill_step (fun K hK => ?_); go_simp; (first
          | (refine ⟨_, ((right_any _ _ (by decide) (by decide) _).mono fun _ _ h => ⟨h.1, h.2.symm⟩), hK _ ?_⟩)
          | (refine ⟨_, ((shift_any _ _ (by decide) (by decide) _).mono fun _ _ h => ⟨h.1, h.2.symm⟩), hK _ ?_⟩)
          | ((try go_bits); refine hK _ ?_)); clear hK K)
        refine wpStill_nil ?_
        go_wp2
        go_roundw
        case rel => exact ⟨t + 1, by omega, by go_num, q0.drew.setOther (by simp; omega) _, q1.drew.setOther (by simp) _, (q2.drew.set t _).congr fun i _ => cutT_set (wS l 48) t _ (by rw [Hz.out]; rfl) i, (qB.setCell (p := ⟨w.heap.size + 1 + 1, t, none⟩) (by simp; omega) _).drew⟩
        case measure => simp [intOf]; omega
    · obtain rfl : t = 64 := by omega
      rw [show ((64 : Nat) : Int) = 64 from rfl]
      have hgB : w.heap.size + 1 + 1 < wr.heap.size := q2.lt
      have q3 := rowIs_zeros64 s wr 125 8
      replace q0 := q0.alloc (.cells (Array.replicate 8 (.int .u64 0)) 125)
      replace q1 := q1.alloc (.cells (Array.replicate 8 (.int .u64 0)) 125)
      replace q2 := q2.alloc (.cells (Array.replicate 8 (.int .u64 0)) 125)
      replace q2 := q2.congr (g := vF (wS l 48)) fun i hi => by rw [vF_at, vF_at, cutT_at _ _ _ hi]
      have qB2 := qB.alloc qB.size (.cells (Array.replicate 8 (.int .u64 0)) 125)
      go_wp2
      change Code.wp _ _ _ _ (wr.alloc (.cells (Array.replicate 8 (.int .u64 0)) 125))
      generalize wr.heap.size = g at hgB q3 ⊢
      generalize wr.alloc (.cells (Array.replicate 8 (.int .u64 0)) 125) = W1 at q0 q1 q2 q3 qB2 ⊢
      clear qB
      go_loopw [10] (fun i wr => ∃ t : Nat, t ≤ 8 ∧ i = .int .i64 t ∧ wr.rowIs w.heap.size 117 8 (uF s) ∧ wr.rowIs (w.heap.size + 1) 117 8 (fun _ => .int .u32 0) ∧ wr.rowIs (w.heap.size + 1 + 1) 123 64 (vF (wS l 48)) ∧ wr.rowIs g 125 8 (vF (cutT s t)) ∧ Below w.heap.size w wr) (fun i _ => 8 - (intOf i).toNat)
      case atStart => exact ⟨0, by omega, rfl, q0, q1, q2, q3, qB2⟩
      case round =>
        clear q0 q1 q2 q3 qB2
        obtain ⟨t, ht, rfl, q0, q1, q2, q3, qB⟩ := hrel
        by_cases hlt : t < 8
        · have c0 := q0.cell (i := t) hlt
          have c3 := q3.cell (i := t) hlt
          have f3 := q3.frozen t
          have it : (t : Int) < 8 := by omega
          go_wp2
          go_roundw
          case rel => exact ⟨t + 1, by omega, by go_num, q0.setOther (by simp; omega) _, q1.setOther (by simp; omega) _, q2.setOther (by simp; omega) _, (q3.set t _).congr fun i _ => cutT_set s t _ rfl i, (qB.setCell (p := ⟨g, t, none⟩) (by simp; omega) _)⟩
          case measure => simp [intOf]; omega
        · obtain rfl : t = 8 := by omega
          rw [show ((8 : Nat) : Int) = 8 from rfl]
          replace q3 := q3.congr (g := vF (ShSt.of s).get) fun i hi => by
            rw [vF_at, vF_at, cutT_at _ _ _ hi]
            match i, hi with
            | 0, _ => rfl | 1, _ => rfl | 2, _ => rfl | 3, _ => rfl | 4, _ => rfl | 5, _ => rfl | 6, _ => rfl | 7, _ => rfl
          go_wp2
          rename_i wr1
          generalize wr = W2 at q0 q1 q2 q3 qB ⊢
          go_loopw [11] (fun i wr => ∃ (t : Nat) (x : ShSt), t ≤ 64 ∧ i = .int .i64 t ∧ Hid (x = runTo K (wS l 48) (ShSt.of s) t) ∧ wr.rowIs w.heap.size 117 8 (uF s) ∧ wr.rowIs (w.heap.size + 1) 117 8 (fun _ => .int .u32 0) ∧ wr.rowIs (w.heap.size + 1 + 1) 123 64 (vF (wS l 48)) ∧ wr.rowIs g 125 8 (vF x.get) ∧ Below w.heap.size w wr) (fun i _ => 64 - (intOf i).toNat)
          case atStart => exact ⟨0, ShSt.of s, by omega, rfl, rfl, q0, q1, q2, q3, qB⟩
          case round =>
            clear q0 q1 q2 q3 qB
            obtain ⟨t, x, ht, rfl, hx, q0, q1, q2, q3, qB⟩ := hrel
            by_cases hlt : t < 64
            · have cK := (qB.cell (p := ⟨1, t, none⟩) h1).trans (HK.out t hlt)
              have cW := q2.cell (i := t) hlt
              rw [vF_at] at cW
              obtain ⟨Wt, HWt⟩ : ∃ Wt, Hid (wS l 48 t = Wt) := ⟨_, Lib.hid rfl⟩
              rw [HWt.out] at cW
              have it : (t : Int) < 64 := by omega
              have c0 : wr.cell? ⟨g, 0, none⟩ = some (.int .u64 (uN x.a)) := q3.cell (i := 0) (by omega)
              have c1 : wr.cell? ⟨g, 1, none⟩ = some (.int .u64 (uN x.b)) := q3.cell (i := 1) (by omega)
              have c2 : wr.cell? ⟨g, 2, none⟩ = some (.int .u64 (uN x.c)) := q3.cell (i := 2) (by omega)
              have c3 : wr.cell? ⟨g, 3, none⟩ = some (.int .u64 (uN x.d)) := q3.cell (i := 3) (by omega)
              have c4 : wr.cell? ⟨g, 4, none⟩ = some (.int .u64 (uN x.e)) := q3.cell (i := 4) (by omega)
              have c5 : wr.cell? ⟨g, 5, none⟩ = some (.int .u64 (uN x.f)) := q3.cell (i := 5) (by omega)
              have c6 : wr.cell? ⟨g, 6, none⟩ = some (.int .u64 (uN x.g)) := q3.cell (i := 6) (by omega)
              have c7 : wr.cell? ⟨g, 7, none⟩ = some (.int .u64 (uN x.h)) := q3.cell (i := 7) (by omega)
              go_wp2
              refine wp_region_still_lit (by kernel_rfl) (by kernel_rfl) ?_
              repeat (refine wpStill_step (fun K hK => ?_); go_simp; (try go_bits); refine hK _ ?_; clear hK K)
              refine wpStill_nil ?_
              go_wp2_with fail
              change Code.wp _ _ _ _ wr.drew
              replace q0 := q0.drew
              replace q1 := q1.drew
              replace q2 := q2.drew
              replace q3 := q3.drew
              replace qB := qB.drew
              replace cK := cell_drew cK
              replace cW := cell_drew cW
              replace c0 := cell_drew c0
              replace c1 := cell_drew c1
              replace c2 := cell_drew c2
              replace c3 := cell_drew c3
              replace c4 := cell_drew c4
              replace c5 := cell_drew c5
              replace c6 := cell_drew c6
              replace c7 := cell_drew c7
              generalize wr.drew = wr2 at q0 q1 q2 q3 qB cK cW c0 c1 c2 c3 c4 c5 c6 c7 ⊢
              refine wp_region_still_lit (by kernel_rfl) (by kernel_rfl) ?_
              repeat (refine wpStill_step (fun K hK => ?_); go_simp; (first
                | (refine ⟨_, ((right_any _ _ (by decide) (by decide) _).mono fun _ _ h => ⟨h.1, h.2.symm⟩), hK _ ?_⟩)
                | ((try go_bits); refine hK _ ?_)); clear hK K)
              refine wpStill_nil ?_
              change Exit.then _ _ _ _ wr2.drew
              replace q0 := q0.drew
              replace q1 := q1.drew
              replace q2 := q2.drew
              replace q3 := q3.drew
              replace qB := qB.drew
              replace c0 := cell_drew c0
              replace c1 := cell_drew c1
              replace c2 := cell_drew c2
              replace c3 := cell_drew c3
              replace c4 := cell_drew c4
              replace c5 := cell_drew c5
              replace c6 := cell_drew c6
              replace c7 := cell_drew c7
              clear cK cW
              generalize wr2.drew = wr3 at q0 q1 q2 q3 qB c0 c1 c2 c3 c4 c5 c6 c7 ⊢
              obtain ⟨o1, Ho1⟩ : ∃ o1, Hid (x.h + (x.e.rotateRight 6 ^^^ x.e.rotateRight 11 ^^^ x.e.rotateRight 25) + (x.e &&& x.f ^^^ ~~~x.e &&& x.g) + K t + Wt = o1) := ⟨_, Lib.hid rfl⟩
              obtain ⟨m1, Hm1⟩ : ∃ m1, Hid (x.a &&& x.b ^^^ x.a &&& x.c ^^^ x.b &&& x.c = m1) := ⟨_, Lib.hid rfl⟩
              rw [Ho1.out, Hm1.out]
              go_wp2_with fail
              refine (right_any _ _ (by decide) (by decide) _).mono ?_
              rintro e w' ⟨rfl, rfl⟩
              go_wp2_with fail
              refine (right_any _ _ (by decide) (by decide) _).mono ?_
              rintro e w' ⟨rfl, rfl⟩
              go_wp2_with fail
              refine (right_any _ _ (by decide) (by decide) _).mono ?_
              rintro e w' ⟨rfl, rfl⟩
              go_upto_region 24 with fail
              obtain ⟨o2, Ho2⟩ : ∃ o2, Hid ((x.a.rotateRight (2 : Int).toNat ^^^ x.a.rotateRight (13 : Int).toNat ^^^ x.a.rotateRight (22 : Int).toNat) + m1 = o2) := ⟨_, Lib.hid rfl⟩
              first | rw [Ho2.out] | (simp only [Int.reduceToNat] at Ho2; rw [Ho2.out])
              refine wp_region_lit ?_
              iterate 22 (refine wpList_plain rfl (fun K hK => ?_); go_simp; (try go_bits); refine hK _ _ ?_; clear hK K)
              have hth := there_row q3
              refine wpList_store_mid rfl 125 (.tmp 9) (.tmp 200) rfl g 0 #[.int .u64 (uN (o1 + o2)), .int .u64 (uN x.a), .int .u64 (uN x.b), .int .u64 (uN x.c), .int .u64 (uN (x.d + o1)), .int .u64 (uN x.e), .int .u64 (uN x.f), .int .u64 (uN x.g)] ?_ ?_ hth info47 ?_ ?_
              · go_simp
              · go_simp
              · simp [Value.oneCell']
              obtain ⟨nx, hnx⟩ : ∃ nx : ShSt, nx = ⟨o1 + o2, x.a, x.b, x.c, x.d + o1, x.e, x.f, x.g⟩ := ⟨_, rfl⟩
              have hL : (#[.int .u64 (uN (o1 + o2)), .int .u64 (uN x.a), .int .u64 (uN x.b), .int .u64 (uN x.c), .int .u64 (uN (x.d + o1)), .int .u64 (uN x.e), .int .u64 (uN x.f), .int .u64 (uN x.g)] : Array Value).toList = (rowA 8 (vF nx.get)).toList := by rw [hnx]; rfl
              rw [hL]
              have Hnx : Hid (nx = runTo K (wS l 48) (ShSt.of s) (t + 1)) := Lib.hid (by
                rw [runTo, ← hx.out, HWt.out, hnx, ← Ho1.out, ← Ho2.out, ← Hm1.out]; rfl)
              clear hL hnx Ho1 Ho2 Hm1 c0 c1 c2 c3 c4 c5 c6 c7 hth
              replace q0 := rowIs_setOther q0 (b' := g) (by omega) (rowA 8 (vF nx.get)).toList 0
              replace q1 := rowIs_setOther q1 (b' := g) (by omega) (rowA 8 (vF nx.get)).toList 0
              replace q2 := rowIs_setOther q2 (b' := g) (by omega) (rowA 8 (vF nx.get)).toList 0
              replace q3 := rowIs_setAll q3 (vF nx.get)
              replace qB := below_setCells g (by omega) (rowA 8 (vF nx.get)).toList 0 _ qB
              generalize wr3.setCells g 0 (rowA 8 (vF nx.get)).toList = wr4 at q0 q1 q2 q3 qB ⊢
              go_wp2
              go_roundw
              case rel => exact ⟨t + 1, nx, by omega, by go_num, Hnx, q0, q1, q2, q3, qB⟩
              case measure => simp [intOf]; omega
            · obtain rfl : t = 64 := by omega
              rw [show ((64 : Nat) : Int) = 64 from rfl]
              obtain ⟨T, HT2⟩ : ∃ T, Hid (x.get = T) := ⟨_, Lib.hid rfl⟩
              rw [HT2.out] at q3
              clear q2
              go_wp2
              generalize wr = W3 at q0 q1 q3 qB ⊢
              go_loopw [18] (fun i wr => ∃ k : Nat, k ≤ 8 ∧ i = .int .i64 k ∧ wr.rowIs w.heap.size 117 8 (uF (mixed s T k)) ∧ wr.rowIs (w.heap.size + 1) 117 8 (fun _ => .int .u32 0) ∧ wr.rowIs g 125 8 (vF T) ∧ Below w.heap.size w wr) (fun i _ => 8 - (intOf i).toNat)
              case atStart => exact ⟨0, by omega, rfl, q0, q1, q3, qB⟩
              case round =>
                clear q0 q1 q3 qB
                obtain ⟨k, hk, rfl, q0, q1, q3, qB⟩ := hrel
                by_cases hlt : k < 8
                · have c0 := q0.cell (i := k) (by omega)
                  rw [uF_at, show mixed s T k k = s k by simp [mixed]] at c0
                  have c3 := q3.cell (i := k) (by omega)
                  have f0 := q0.frozen k
                  have i8 : (k : Int) < 8 := by omega
                  go_wp2
                  refine wp_region_still_tail 12 (by kernel_rfl) (by kernel_rfl) ?_
                  simp only [List.take_succ_cons, List.take_zero, List.drop_succ_cons, List.drop_zero]
                  repeat (refine wpStill_step (fun K hK => ?_); go_simp; (try go_bits); refine hK _ ?_; clear hK K)
                  refine wpStill_nil ?_
                  go_wp2
                  go_roundw
                  case rel => exact ⟨k + 1, by omega, by go_num, ((q0.set k _).congr fun i _ => mixed_set s T k i), q1.setOther (by simp) _, q3.setOther (by simp; omega) _, (qB.setCell (p := ⟨w.heap.size, k, none⟩) (by simp) _).drew⟩
                  case measure => simp [intOf]; omega
                · obtain rfl : k = 8 := by omega
                  have hR := rangeAt_row q0
                  go_wp2_with (first
                    | (refine wpList_load_mid rfl 117 (.tmp 2) rfl w.heap.size 0 rfl (rowA 8 (uF (mixed s T 8))).toList _ hR Tryd.underlying117 rfl (by rw [rowA_toList]; simpa using info23) ?_)
                    | (refine wpList_store_mid rfl 117 (.tmp 4) (.tmp 217) rfl (w.heap.size + 1) 0 (rowA 8 (uF (mixed s T 8))) rfl rfl (by rw [rowA_size]; exact there_row q1) (by rw [rowA_size]; exact info23) (rowA_one _ _ fun _ => rfl) ?_))
                  refine bodyPost_ret (results_row rfl _ rfl (rowIs_setAll q1 (uF (mixed s T 8))) Tryd.underlying117 info23) rfl ⟨?_, below_setCells _ (by omega) _ _ _ qB⟩
                  rw [← hx.out, HT2.out]
                  exact congrArg (fun z => Ending.returned (.agg z)) (rowA_congr fun i hi => by simp [uF, mixed, hi])
end Go.Proofs.YtchpmdcacpjojaaDoor
