/- Package saga: steps from the last one on; which step is undone next; which one's call is due. -/
import Derived.Test.YtilmeffmdgcblaaDoorMb
import Derived.Test.YtilmeffmdgcblaaDoorMa
import Derived.WideKeyElems
import Derived.WideMake
set_option linter.all false
namespace Go.Proofs.YtilmeffmdgcblaaDoor
open Go Go.RowKit Go.Shelf
attribute [local go_sem] Oper.semAt_some
set_option maxRecDepth 8000
set_option linter.all false
theorem lastT_some {f : Nat → Bool} {i : Nat} (hi : f i = true) : ∀ {n : Nat}, i < n → (∀ j, i < j → j < n → f j = false) → lastT f n = some i
  | 0, h, _ => by omega
  | n + 1, h, hn => by
    unfold lastT
    by_cases e : i = n
    · subst e; rw [if_pos hi]
    · rw [if_neg (by rw [hn n (by omega) (by omega)]; simp)]
      exact lastT_some hi (by omega) fun j h1 h2 => hn j h1 (by omega)
theorem lastT_none {f : Nat → Bool} : ∀ {n : Nat}, (∀ j, j < n → f j = false) → lastT f n = none
  | 0, _ => rfl
  | n + 1, h => by
    unfold lastT
    rw [if_neg (by rw [h n (by omega)]; simp)]
    exact lastT_none fun j hj => h j (by omega)
/-- What the iterator hands on: each step with its place, the last one first. -/
def downL (l : List (Int × Int)) (k : Nat) : List (Nat × (Int × Int)) := (List.range k).map fun q => (l.length - 1 - q, l.getD (l.length - 1 - q) (0, 0))
theorem downL_len (l : List (Int × Int)) (k : Nat) : (downL l k).length = k := by simp [downL]
theorem downL_succ (l : List (Int × Int)) (k : Nat) : downL l (k + 1) = downL l k ++ [(l.length - 1 - k, l.getD (l.length - 1 - k) (0, 0))] := by
  unfold downL
  rw [List.range_succ, List.map_append]; rfl
set_option maxHeartbeats 400000 in
theorem fromLast_any (A0 : Option Addr) (n c : Nat) (w : World) : Calls Tryd.prog 87 #[.slice A0 n c] w fun e w' => e = .returned (.func (.func 88) #[] #[.pointer (some ⟨w.heap.size, 0, none⟩)]) ∧ w.alloc (.cells #[.slice A0 n c] 29) = w' := by
  go_enter Tryd.func87, Tryd.ntmps87
  go_wp2
  go_ret
  exact ⟨rfl, rfl⟩
set_option maxHeartbeats 2000000 in
theorem fromLast1_seq (pb : Nat) (sv : Value) (l : List (Int × Int)) (w : World) (hbox : w.cell? ⟨pb, 0, none⟩ = some sv) (hs : RdP w sv l) (hl : l.length ≤ 100000) :
    SeqG Tryd.prog 88 #[.pointer (some ⟨pb, 0, none⟩)] (fun x : Nat × (Int × Int) => #[.int .i64 (x.1 : Int), .agg (rowA 2 (stepF x.2))]) (KeepBut []) (fun pre x _ => pre = downL l (l.length - 1 - x.1) ∧ l.getD x.1 (0, 0) = x.2 ∧ x.1 < l.length) (fun xs => xs = downL l l.length) (fun _ => True) w := by
  intro lp J Jx W hW hJ hJx hY h0
  have HBX := Lib.hid (KeepBut.cell (KeepBut.below (L := []) hW) (by simp) hbox)
  have hs' := (NewT.of hW).pairs hs
  obtain ⟨A0, c, rfl, h1, h2, h3⟩ := hs'
  have H3 := Lib.hid h3
  have bx0 : W.cell? ⟨pb, 0, none⟩ = some (.slice A0 l.length c) := HBX.out
  have hl1 : l.length ≤ 100000 := hl
  clear hs hbox h3
  refine callsIn_of_wp Tryd.func88 rfl trivial ?_ rfl
  simp only [Tryd.ntmps88, List.size_toArray, List.length_cons, List.length_nil, Nat.reduceAdd, Nat.reduceSub, Array.replicate_succ, Array.replicate_zero, List.push_toArray, List.append_toArray, List.nil_append, List.cons_append]
  gi_wp2
  gi_loopw [3] (fun i wr => ∃ k : Nat, k ≤ l.length ∧ i = .int .i64 ((l.length : Int) - 1 - (k : Int)) ∧ J (downL l k) wr ∧ KeepBut [] W wr) (fun i _ => (intOf i + 1).toNat)
  case atStart => exact ⟨0, by omega, by rw [Int.natCast_zero, Int.sub_zero], h0, KeepBut.refl _ _⟩
  case round =>
    clear bx0
    obtain ⟨k, hk, rfl, hJs, hKs⟩ := hrel
    by_cases hlt : k < l.length
    · obtain ⟨j, hj⟩ : ∃ j, l.length - 1 - k = j := ⟨_, rfl⟩
      have hjj : (l.length : Int) - 1 - (k : Int) = (j : Int) := by omega
      have hjl : j < l.length := by omega
      rw [hjj]
      obtain ⟨b, o, rfl, hcell⟩ := H3.out (by omega)
      obtain ⟨d, hd⟩ : ∃ d, l.getD j (0, 0) = d := ⟨_, rfl⟩
      have HD := Lib.hid hd
      have hc := hcell j hjl
      rw [hd] at hc
      have C0 : Hid (wr.cell? ⟨b, o + 2 * j, none⟩ = some (.int .i64 d.1)) := Lib.hid (hKs.cell (a := ⟨b, o + 2 * j, none⟩) (by simp) hc.1)
      have C1 : Hid (wr.cell? ⟨b, o + 2 * j + 1, none⟩ = some (.int .i64 d.2)) := Lib.hid (hKs.cell (a := ⟨b, o + 2 * j + 1, none⟩) (by simp) hc.2)
      have CB : Hid (wr.cell? ⟨pb, 0, none⟩ = some (.slice (some ⟨b, o, none⟩) l.length c)) := Lib.hid (hKs.cell (a := ⟨pb, 0, none⟩) (by simp) HBX.out)
      have it : (0 : Int) ≤ (j : Int) := by omega
      have hy0 := hY (downL l k) (j, d) wr hJs ⟨by rw [show l.length - 1 - (j, d).1 = k by show l.length - 1 - j = k; omega], hd, hjl⟩
      obtain ⟨fn, tmps, assign, body, hy, hR⟩ := hy0
      have HR := Lib.hid hR
      clear hR hcell hc hd
      gi_upto_region 3 with fail
      refine wpIn_region_lit ?_
      refine wpListIn_wpW (by kernel_rfl) (by simp) rfl (fun K hK => ?_)
      refine opr_mvV (.inl rfl) rfl (hK _ _ ?_)
      clear hK K
      simp only [Act.put, List.setIfInBounds_toArray, List.set_cons_zero, List.set_cons_succ]
      refine wpListIn_wpW (by kernel_rfl) (by simp) rfl (fun K hK => ?_)
      refine opr_mvV (.inl rfl) rfl (hK _ _ ?_)
      clear hK K
      simp only [Act.put, List.setIfInBounds_toArray, List.set_cons_zero, List.set_cons_succ]
      refine wpListIn_wpW (by kernel_rfl) (by simp) rfl (fun K hK => ?_)
      refine opr_ld1 Tryd.underlying29 rfl rfl rfl CB.out (hK _ _ ?_)
      clear hK K
      simp only [Act.put, List.setIfInBounds_toArray, List.set_cons_zero, List.set_cons_succ]
      refine wpListIn_wpW (by kernel_rfl) (by simp) rfl (fun K hK => ?_)
      refine opr_mvV (.inl rfl) rfl (hK _ _ ?_)
      clear hK K
      simp only [Act.put, List.setIfInBounds_toArray, List.set_cons_zero, List.set_cons_succ]
      refine wpListIn_wpW (by kernel_rfl) (by simp) rfl (fun K hK => ?_)
      refine opr_idxS hjl rfl rfl rfl (hK _ _ ?_)
      clear hK K
      simp only [Act.put, List.setIfInBounds_toArray, List.set_cons_zero, List.set_cons_succ]
      refine wpListIn_wpW (by kernel_rfl) (by simp) rfl (fun K hK => ?_)
      refine opr_ld2 (s := d) C0.out C1.out rfl rfl (hK _ _ ?_)
      clear hK K
      simp only [Act.put, List.setIfInBounds_toArray, List.set_cons_zero, List.set_cons_succ]
      gi_wp2
      refine ⟨rfl, HR.out.mono ?_⟩
      rintro e W3 (⟨rfl, hJ3, hk3, _⟩ | ⟨rfl, hJx3, _⟩)
      · gi_wp2
        go_roundw
        case rel => exact ⟨k + 1, by omega, by first | go_num | (congr 1; omega), by rw [downL_succ, hj, HD.out]; exact hJ3, hKs.trans hk3⟩
        case measure => simp [intOf] <;> omega
      · gi_wp2
        refine bodyPost_ret (results_none rfl _ _ _) rfl ?_
        exact ⟨⟨_, rfl⟩, .inr ⟨_, trivial, hJx3⟩⟩
    · obtain rfl : k = l.length := by omega
      have it : ((l.length : Int) - 1 - (l.length : Int)) = -1 := by omega
      rw [it]
      gi_wp2
      refine bodyPost_end (results_none rfl _ _ _) rfl ?_
      exact ⟨⟨_, rfl⟩, .inl ⟨_, rfl, hJs⟩⟩
theorem results_vv {P : Program} {w : World} {fn : Func} {tmps : Array Value} {p q : Tmp} {tp tq t t' : TypeId} {d d' : TypeDesc} {b b' : Nat} {u v : Value} (hf : fn.results = #[.cell p tp, .cell q tq]) (hp : tmps.getD p undef = .pointer (some ⟨b, 0, none⟩)) (hq : tmps.getD q undef = .pointer (some ⟨b', 0, none⟩))
    (h : w.rowIs b t 1 (fun _ => u)) (h' : w.rowIs b' t' 1 (fun _ => v)) (hu : P.underlying tp = some d) (hd : d.isRow = false) (hu' : P.underlying tq = some d') (hd' : d'.isRow = false) : (results fn tmps).run P w = .ok (.tuple #[u, v]) w := by
  have e1 := run_ldV_one (P := P) h hu hd
  have e2 := run_ldV_one (P := P) h' hu' hd'
  have hp' : tmps[p]?.getD undef = .pointer (some ⟨b, 0, none⟩) := by simpa using hp
  have hq' : tmps[q]?.getD undef = .pointer (some ⟨b', 0, none⟩) := by simpa using hq
  simp [results, hf, hp', hq', asAddr, e1, e2]
theorem opr_put1O {P : Program} {a : Act} {w : World} {o : Oper} {K : Act → World → Prop} {Q : Exit → Act → World → Prop} {t t' : TypeId} {x y : Operand} {g o0 n : Nat} {v : Value} {f0 F : Nat → Value} (ho : o.op = .store t x y) (hx : a.eval x = .pointer (some ⟨g, o0, none⟩)) (hy : a.eval y = v) (hr : w.rowIs g t' n f0) (hm : o0 < n) (hi : (P.info? t).map (·.size) = some 1) (hone : v.oneCell' = true)
    (hF : ∀ i, i < n → F i = if i = o0 then v else f0 i) (h : ∀ w', RT g w w' → KeepsOthers w w' → w'.rowIs g t' n F → K (a.put o.dst undef) w') : o.wp P a w K Q := by
  obtain ⟨dst, op, type, pos, after, guard⟩ := o
  simp only at ho
  subst ho
  have hsz : (sizeOf t).run P w = .ok 1 w := by
    cases hq : P.info? t with
    | none => simp [hq] at hi
    | some i => simp [hq] at hi; simp [sizeOf, typeInfo, hq, hi]
  have hc := hr.cell hm
  have hf := hr.frozen o0
  have hcs : v.cells = #[v] := by cases v <;> first | rfl | simp [Value.oneCell'] at hone
  refine opr_unit (s := Instr.storeAt t (a.eval x) (a.eval y)) (w' := w.setCell ⟨g, o0, none⟩ v) rfl ?_ (h _ (RT.setCell w o0 v) (KeepsOthers.setCell w _ v) ((hr.set o0 v).congr fun i hi => by rw [hF i hi]))
  rw [hx, hy]
  simp [Instr.storeAt, Instr.sureAddr, storeVar, hsz, hcs, storeCells, run_store _ _ _ _ _ hone, hc, hf, Addr.add_zero']
theorem wpList_new1 {P : Program} {ops : Array Oper} {rest : List Oper} {a : Act} {w : World} {Q : Exit → Act → World → Prop} {o1 o2 : Oper} {t : TypeId} {d0 : Nat} {y : Operand} {v v0 : Value} (hg1 : o1.guard = none) (hg2 : o2.guard = none) (h1 : o1.op = .alloc t) (hd : o1.dst = some d0) (h2 : o2.op = .store t (.tmp d0) y) (hd2 : o2.dst = none) (hlt : d0 < a.tmps.size)
    (hal : ∀ w : World, (Instr.alloc t true (.tuple #[])).run P w = .ok (.pointer (some ⟨w.heap.size, 0, none⟩)) (w.alloc (.cells (rowA 1 (fun _ => v0)) t))) (hi : (P.info? t).map (·.size) = some 1) (hone : v.oneCell' = true)
    (hy : (a.put (some d0) (.pointer (some ⟨w.heap.size, 0, none⟩))).eval y = v) (h : ∀ w', NewT w w' → w'.rowIs w.heap.size t 1 (fun _ => v) → wpList P ops Q rest (a.put (some d0) (.pointer (some ⟨w.heap.size, 0, none⟩))) w') : wpList P ops Q (o1 :: o2 :: rest) a w := by
  refine wpList_plain hg1 fun K hK => ?_
  obtain ⟨dst, op, type, pos, after, guard⟩ := o1
  simp only at h1 hd
  subst h1 hd
  refine opr_val (s := Instr.alloc t true (.tuple #[])) rfl (hal w) (hK _ _ ?_)
  have hr := rowIs_box w t 1 (fun _ => v0)
  refine wpList_put1 (o0 := 0) (n := 1) (F := fun _ => v) hg2 h2 hd2 (by rw [eval_tmp]; simp [Act.put, hlt]) hy hr (by decide) hi hone (fun i hi => by rw [if_pos (by omega)]) ?_
  intro w' hB hr'
  exact h w' (NewT.of ((NewT.alloc w _).out.trans (hB _ (Nat.le_refl _)))) hr'
theorem row_putO {W : World} {b n l : Nat} {t : TypeId} {f : Nat → Value} (h : W.rowIs b t n f) (hne : b ≠ l) (o : Obj) : (W.putObj l o).rowIs b t n f := h.of_block (World.putObj_heap_other hne)
theorem run_alloc_int (w : World) : (Instr.alloc 3 true (.tuple #[])).run Tryd.prog w = .ok (.pointer (some ⟨w.heap.size, 0, none⟩)) (w.alloc (.cells (rowA 1 (fun _ => .int .i64 0)) 3)) := by kernel_rfl
def TInv (l : List (Int × Int)) (op : Int) (g2 g3 g4 : Nat) (w : World) (pre : List (Nat × (Int × Int))) (V : World) : Prop :=
  (∀ q, q < pre.length → isTg l op (l.length - 1 - q) = false) ∧ V.rowIs g2 3 1 (fun _ => .int .i64 0) ∧ V.rowIs g3 4 1 (fun _ => .bool false) ∧ V.rowIs g4 3 1 (fun _ => .int .i64 op) ∧ NewT w V
def TStop (l : List (Int × Int)) (op : Int) (g2 g3 : Nat) (w : World) (c : Code) (V : World) : Prop :=
  c = .ret ∧ ∃ i : Nat, lastT (isTg l op) l.length = some i ∧ V.rowIs g2 3 1 (fun _ => .int .i64 (i : Int)) ∧ V.rowIs g3 4 1 (fun _ => .bool true) ∧ NewT w V
set_option maxHeartbeats 4000000 in
theorem target_any (A0 : Option Addr) (c : Nat) (l : List (Int × Int)) (g : Sg) (w : World) (hs : RdP w (.slice A0 l.length c) l) (hl : l.length ≤ 6) : Calls Tryd.prog 85 #[.agg (rowA 10 (sgF (.slice A0 l.length c) g))] w fun e w' => e = .returned (.tuple #[.int .i64 (oI (tgtO l g)), .bool (tgtO l g).isSome]) ∧ Below w.heap.size w w' := by
  have HS := Lib.hid hs
  have HL6 := Lib.hid hl
  have HL : Hid (l.length ≤ 100000) := Lib.hid (by omega)
  clear hs hl
  refine (callsIn_wide (n := 0)).1 ?_
  refine callsIn_of_wp_marks Tryd.func85 rfl trivial ?_ rfl
  simp only [Tryd.ntmps85, List.size_toArray, List.length_cons, List.length_nil, Nat.reduceAdd, Nat.reduceSub, Array.replicate_succ, Array.replicate_zero, List.push_toArray, List.append_toArray, List.nil_append, List.cons_append]
  gi_upto_region 1 with fail
  have r_g1 := ((rowIs_box w 59 10 (sgF (.slice A0 l.length c) g)).alloc (.cells (rowA 1 (fun _ => .int .i64 0)) 3)).alloc (.cells (rowA 1 (fun _ => .bool false)) 4)
  have r_g2 := (rowIs_box (w.alloc (.cells (rowA 10 (sgF (.slice A0 l.length c) g)) 59)) 3 1 (fun _ => .int .i64 0)).alloc (.cells (rowA 1 (fun _ => .bool false)) 4)
  rw [World.size_alloc] at r_g2
  have r_g3 := rowIs_box ((w.alloc (.cells (rowA 10 (sgF (.slice A0 l.length c) g)) 59)).alloc (.cells (rowA 1 (fun _ => .int .i64 0)) 3)) 4 1 (fun _ => .bool false)
  rw [World.size_alloc, World.size_alloc] at r_g3
  have hN : NewT w (((w.alloc (.cells (rowA 10 (sgF (.slice A0 l.length c) g)) 59)).alloc (.cells (rowA 1 (fun _ => .int .i64 0)) 3)).alloc (.cells (rowA 1 (fun _ => .bool false)) 4)) := (NewT.trans _ _ _ ((NewT.trans _ _ _ (NewT.alloc _ _) (NewT.alloc _ _))) (NewT.alloc _ _))
  change Code.wpIn _ _ _ _ _ _ (((w.alloc (.cells (rowA 10 (sgF (.slice A0 l.length c) g)) 59)).alloc (.cells (rowA 1 (fun _ => .int .i64 0)) 3)).alloc (.cells (rowA 1 (fun _ => .bool false)) 4))
  generalize (((w.alloc (.cells (rowA 10 (sgF (.slice A0 l.length c) g)) 59)).alloc (.cells (rowA 1 (fun _ => .int .i64 0)) 3)).alloc (.cells (rowA 1 (fun _ => .bool false)) 4)) = W0 at r_g1 r_g2 r_g3 hN ⊢
  obtain ⟨g1, h_g1⟩ : ∃ g_, w.heap.size = g_ := ⟨_, rfl⟩
  obtain ⟨g2, h_g2⟩ : ∃ g_, w.heap.size + 1 = g_ := ⟨_, rfl⟩
  obtain ⟨g3, h_g3⟩ : ∃ g_, w.heap.size + 1 + 1 = g_ := ⟨_, rfl⟩
  have HG : Hid (w.heap.size ≤ g1 ∧ g1 < g2 ∧ g2 < g3) := Lib.hid (by omega)
  rw [h_g1] at r_g1
  rw [h_g2] at r_g2
  rw [h_g3] at r_g3
  try rw [h_g3]
  try rw [h_g2]
  simp only [h_g1]
  have Rg1 := Lib.hid r_g1
  have Rg2 := Lib.hid r_g2
  have Rg3 := Lib.hid r_g3
  have HM := Lib.hid hN
  clear r_g1 r_g2 r_g3 hN h_g1 h_g2 h_g3
  refine wpIn_wide.2 ?_
  refine wp_region_steps0 NewT [SV.eq (.pointer (some ⟨g1, 6, none⟩)), SV.eq (.int .i64 (g.dn)), SV.eq (.pointer (some ⟨g1, 8, none⟩)), SV.eq (.int .i64 (g.so)), SV.eq (.int .i64 (orI g.dn g.so)), SV.eq (.pointer (some ⟨g1, 7, none⟩)), SV.eq (.int .i64 (g.un)), SV.eq (.int .i64 (notI (orI g.dn g.so) g.un))] [([(1, none)], none), ([(7, some 0)], none), ([(1, none)], none), ([(9, some 2)], none), ([(8, some 1), (10, some 3)], none), ([(1, none)], none), ([(12, some 5)], none), ([(11, some 4), (13, some 6)], none)] 31 8 rfl rfl (by kernel_rfl) NewT.trans (NewT.refl _) (Nat.le_of_ble_eq_true rfl) ⟨?_, ?_, ?_, ?_, ?_, ?_, ?_, ?_, trivial⟩ ?_
  · exact fun a wx hT hF K hK => rely_wp rfl (opr_fldU6 rfl hF.1 (hK _ _ (NewT.refl _) rfl))
  · exact fun a wx hT hF K hK => rely_wp rfl (opr_ldI (hT.row Rg1.out) (by decide) rfl rfl hF.1 (hK _ _ (NewT.refl _) rfl))
  · exact fun a wx hT hF K hK => rely_wp rfl (opr_fldU8 rfl hF.1 (hK _ _ (NewT.refl _) rfl))
  · exact fun a wx hT hF K hK => rely_wp rfl (opr_ldI (hT.row Rg1.out) (by decide) rfl rfl hF.1 (hK _ _ (NewT.refl _) rfl))
  · exact fun a wx hT hF K hK => rely_wp rfl (opr_orI rfl hF.1 hF.2.1 (hK _ _ (NewT.refl _) rfl))
  · exact fun a wx hT hF K hK => rely_wp rfl (opr_fldU7 rfl hF.1 (hK _ _ (NewT.refl _) rfl))
  · exact fun a wx hT hF K hK => rely_wp rfl (opr_ldI (hT.row Rg1.out) (by decide) rfl rfl hF.1 (hK _ _ (NewT.refl _) rfl))
  · exact fun a wx hT hF K hK => rely_wp rfl (opr_notI rfl hF.1 hF.2.1 (hK _ _ (NewT.refl _) rfl))
  · intro w1 k1
    iterate 8 (intro u h; obtain rfl := Eq.symm (h (by simp)); clear h)
    refine relyEnd_nil rfl ?_
    simp only [Act.put, List.setIfInBounds_toArray, List.set_cons_zero, List.set_cons_succ]
    refine wpList_new1 (v := .int .i64 (notI (orI g.dn g.so) g.un)) rfl rfl rfl rfl rfl rfl (by first | (simp; done) | simp [Act.put]) run_alloc_int info_i1 rfl rfl ?_
    intro W1 hn1 rr1
    refine wpList_end rfl ?_
    simp only [Act.put, List.setIfInBounds_toArray, List.set_cons_zero, List.set_cons_succ]
    go_simp
    obtain ⟨g4, h_g4⟩ : ∃ g_, w1.heap.size = g_ := ⟨_, rfl⟩
    rw [h_g4] at rr1
    simp only [h_g4]
    have HGg4 : Hid (g1 < g4 ∧ g2 < g4 ∧ g3 < g4 ∧ w.heap.size ≤ g4) := Lib.hid (by rw [← h_g4]; exact ⟨(k1.row Rg1.out).lt, (k1.row Rg2.out).lt, (k1.row Rg3.out).lt, (NewT.trans _ _ _ HM.out k1).out.size⟩)
    have q1 := NewT.trans _ _ _ k1 hn1
    clear k1 hn1 h_g4
    replace Rg1 := Lib.hid (q1.row Rg1.out)
    replace Rg2 := Lib.hid (q1.row Rg2.out)
    replace Rg3 := Lib.hid (q1.row Rg3.out)
    replace HM := Lib.hid (NewT.trans _ _ _ HM.out q1)
    clear q1
    have Rg4 := Lib.hid rr1
    clear rr1
    have hop : (notI (orI g.dn g.so) g.un) = opnI g := rfl
    rw [hop] at Rg4
    have c0 : W1.cell? ⟨g1, 0, none⟩ = some (.slice A0 l.length c) := Rg1.out.cell (i := 0) (by omega)
    gi_wp2_with fail
    refine ⟨trivial, rfl, (callsIn_wide.2 (fromLast_any A0 l.length c _)).mono ?_⟩
    rintro e W3 ⟨rfl, hW3⟩
    clear c0 hop
    have bC : W3.cell? ⟨W1.heap.size, 0, none⟩ = some (.slice A0 l.length c) := by
      rw [← hW3]
      have := one_cell W1 (.slice A0 l.length c) 29 0 _ rfl
      rw [Addr.add_zero'] at this
      exact this
    have hB3 : NewT W1 W3 := by rw [← hW3]; exact NewT.alloc _ _
    obtain ⟨pb, hpb⟩ : ∃ pb, W1.heap.size = pb := ⟨_, rfl⟩
    rw [hpb] at bC ⊢
    have q2 := hB3.row Rg2.out
    have q3 := hB3.row Rg3.out
    have q4 := hB3.row Rg4.out
    have HM3 := Lib.hid (NewT.trans _ _ _ HM.out hB3)
    have seq := fromLast1_seq pb (.slice A0 l.length c) l W3 bC (HM3.out.pairs HS.out) HL.out
    have hlt2 := q2.lt
    have hlt3 := q3.lt
    have hlt4 := q4.lt
    have HGS : Hid (g2 < W3.heap.size ∧ g3 < W3.heap.size ∧ g4 < W3.heap.size) := Lib.hid ⟨hlt2, hlt3, hlt4⟩
    clear bC hpb hW3
    gi_wp2_with fail
    refine range_law2 (n := 0) (gf := 88) (lb := #[.pointer (some ⟨pb, 0, none⟩)]) rfl (enters_of Tryd.func88 (by kernel_rfl) rfl) seq (Below.refl _ _) KeepBut.trans (fun V k o o' _ h hc => KeepBut.putObj h hc)
      (fun _ x V k o o' _ h hc hG => hG) (fun _ => rfl)
      (TInv l (opnI g) g2 g3 g4 w) (fun c _ V => TStop l (opnI g) g2 g3 w c V)
      (fun pre A B h hb => ⟨h.1, rowIs_below h.2.1 hb HGS.out.1, rowIs_below h.2.2.1 hb HGS.out.2.1, rowIs_below h.2.2.2.1 hb HGS.out.2.2, NewT.of (h.2.2.2.2.out.trans (hb.mono HM3.out.out.size))⟩)
      (fun c pre A B h hb => by obtain ⟨h1, i, h2, h3, h4, h5⟩ := h; exact ⟨h1, i, h2, rowIs_below h3 hb HGS.out.1, rowIs_below h4 hb HGS.out.2.1, NewT.of (h5.out.trans (hb.mono HM3.out.out.size))⟩)
      ⟨fun q hq => (by cases hq), q2, q3, q4, HM3.out⟩
      (fun x a1 V => ∃ p, a1 = { tmps := #[.agg (rowA 10 (sgF (.slice A0 l.length c) g)), .pointer (some ⟨g1, 0, none⟩), .pointer (some ⟨g2, 0, none⟩), .pointer (some ⟨g3, 0, none⟩), .pointer (some ⟨g4, 0, none⟩), .int .i64 (x.1 : Int), .pointer (some ⟨p, 0, none⟩), .pointer (some ⟨g1, 6, none⟩), .int .i64 g.dn, .pointer (some ⟨g1, 8, none⟩), .int .i64 g.so, .int .i64 (orI g.dn g.so), .pointer (some ⟨g1, 7, none⟩), .int .i64 g.un, .int .i64 (notI (orI g.dn g.so) g.un), .pointer (some ⟨g1, 0, none⟩), .slice A0 l.length c, .func (.func 88) #[] #[.pointer (some ⟨pb, 0, none⟩)], .int .i64 (x.1 : Int), .agg (rowA 2 (stepF x.2)), undef, undef, undef, undef, undef, undef, undef, undef, undef, undef, undef], defers := [] } ∧ V.rowIs p 50 2 (stepF x.2))
      (fun A B h => KeepBut.below h) (fun _ _ _ _ h _ => h) (fun x a1 V k o o' _ h hc hA => by obtain ⟨p, h1, h2⟩ := hA; exact ⟨p, h1, (KeepBut.putObj (L := []) h hc).row (by simp) h2⟩) ?assign ?body ?done ?stop
    case assign =>
      intro l2 x V K hK
      gi_upto_region 4 with fail
      refine wpIn_region_lit ?_
      refine wpListIn_wp (by kernel_rfl) (by simp) rfl (fun K hK => ?_)
      refine opr_val (s := Instr.alloc 50 true (.tuple #[])) rfl (run_alloc_step V) (hK _ _ ?_)
      clear hK K
      refine wpListIn_wp (by kernel_rfl) (by simp) rfl (fun K hK => ?_)
      refine opr_putmW (f := stepF x.2) (F := stepF x.2) rfl rfl rfl (rowIs_box V 50 2 (stepF (0, 0))) (by decide) info_step (stepF_one _) (put_allN _ _ _) ?_
      intro w9 hR9 hK9 r9
      refine hK _ _ ?_
      clear hK K
      refine wpListIn_end rfl ?_
      simp only [Act.put, List.setIfInBounds_toArray, List.set_cons_zero, List.set_cons_succ]
      go_simp
      exact hK _ _ ((NewT.alloc _ _).out.trans (hR9.below.mono (Nat.le_refl _))) ⟨V.heap.size, rfl, r9⟩
    case body =>
      rintro l2 pre ⟨i, d⟩ a1 V hl2 ⟨hno, hV2, hV3, hV4, hNV⟩ ⟨hpre, hd, hlt⟩ ⟨p, rfl, hp⟩
      simp only at hpre hd hlt hp ⊢
      have HNO := Lib.hid hno
      have V2 := Lib.hid hV2
      have V3 := Lib.hid hV3
      have V4 := Lib.hid hV4
      have VP := Lib.hid hp
      have HNV := Lib.hid hNV
      have HPRE := Lib.hid hpre
      have HDD := Lib.hid hd
      have HI6 : Hid (0 ≤ (i : Int) ∧ (i : Int) < 6) := Lib.hid (by have := HL6.out; omega)
      have HIL := Lib.hid hlt
      clear hno hV2 hV3 hV4 hp hNV hpre hd
      gi_upto_region 5 with fail
      refine wpIn_region_rely (NewT) [SV.eq (.pointer (some ⟨p, 0 + 1, none⟩)), SV.eq (.int .i64 (d.2)), SV.eq (.bool (d.2 == 1)), SV.eq (.bool (d.2 == 1)), svIf (d.2 == 1) (SV.eq (.int .i64 (opnI g))), svIf (d.2 == 1) (SV.eq (.int .i64 ((i : Int)))), svIf (d.2 == 1) (SV.eq (.int .i64 (bitI ((i : Int))))), svIf (d.2 == 1) (SV.eq (.int .i64 (andI (opnI g) (bitI ((i : Int)))))), svIf (d.2 == 1) (SV.eq (.bool ((andI (opnI g) (bitI ((i : Int)))) != 0)))] [([(6, none)], none), ([(20, some 0)], none), ([(21, some 1)], none), ([(22, some 2)], none), ([(4, none), (23, some 3)], some (23, true)), ([(5, none), (23, some 3)], some (23, true)), ([(25, some 5), (23, some 3)], some (23, true)), ([(24, some 4), (26, some 6), (23, some 3)], some (23, true)), ([(27, some 7), (23, some 3)], some (23, true))] 31 (by kernel_rfl) rfl (by kernel_rfl) rfl (by kernel_rfl) (by kernel_rfl) rfl NewT.trans (NewT.drew _) (Nat.le_of_ble_eq_true rfl) ⟨?_, ?_, ?_, ?_, ?_, ?_, ?_, ?_, ?_, trivial⟩ ?_
      · intro a wx hT hF K hK
        obtain ⟨f6, _⟩ := hF
        have f6 : a.tmps.getD 6 undef = .pointer (some ⟨p, 0, none⟩) := f6
        refine rely_wp rfl ?_
        exact opr_fldS (by decide) rfl f6 (hK _ _ (NewT.refl _) rfl)
      · intro a wx hT hF K hK
        obtain ⟨f20, _⟩ := hF
        have f20 : a.tmps.getD 20 undef = .pointer (some ⟨p, 0 + 1, none⟩) := f20
        refine rely_wp rfl ?_
        exact opr_ldI (hT.row VP.out) (by decide) rfl rfl f20 (hK _ _ (NewT.refl _) rfl)
      · intro a wx hT hF K hK
        obtain ⟨f21, _⟩ := hF
        have f21 : a.tmps.getD 21 undef = .int .i64 (d.2) := f21
        refine rely_wp rfl ?_
        exact opr_cmp (b := d.2 == 1) (.inl ⟨rfl, rfl⟩) Tryd.underlying3 rfl f21 rfl (hK _ _ (NewT.refl _) rfl)
      · intro a wx hT hF K hK
        obtain ⟨f22, _⟩ := hF
        have f22 : a.tmps.getD 22 undef = .bool (d.2 == 1) := f22
        refine rely_wp rfl ?_
        exact opr_move (.inl rfl) (hK _ _ (NewT.refl _) f22)
      · intro a wx hT hF K hK
        obtain ⟨f4, f23, _⟩ := hF
        have f4 : a.tmps.getD 4 undef = .pointer (some ⟨g4, 0, none⟩) := f4
        have f23 : a.tmps.getD 23 undef = .bool (d.2 == 1) := f23
        refine rely_if (rely_gt f23) (NewT.refl _) hK (fun hE hK => ?_)
        exact opr_ldI (hT.row V4.out) (by decide) rfl rfl f4 (hK _ _ (NewT.refl _) rfl)
      · intro a wx hT hF K hK
        obtain ⟨f5, f23, _⟩ := hF
        have f5 : a.tmps.getD 5 undef = .int .i64 ((i : Int)) := f5
        have f23 : a.tmps.getD 23 undef = .bool (d.2 == 1) := f23
        refine rely_if (rely_gt f23) (NewT.refl _) hK (fun hE hK => ?_)
        exact opr_move (.inl rfl) (hK _ _ (NewT.refl _) f5)
      · intro a wx hT hF K hK
        obtain ⟨f25, f23, _⟩ := hF
        have f25 : (d.2 == 1) = true → a.tmps.getD 25 undef = .int .i64 ((i : Int)) := f25
        have f23 : a.tmps.getD 23 undef = .bool (d.2 == 1) := f23
        refine rely_if (rely_gt f23) (NewT.refl _) hK (fun hE hK => ?_)
        exact opr_cv (gBit_cv ((i : Int)) wx (HI6.out)) rfl Tryd.func80 (by kernel_rfl) (by kernel_rfl) (by simp only [List.map_toArray, List.map_cons, List.map_nil, eval_tmp, (f25 hE)]) hK
      · intro a wx hT hF K hK
        obtain ⟨f24, f26, f23, _⟩ := hF
        have f24 : (d.2 == 1) = true → a.tmps.getD 24 undef = .int .i64 (opnI g) := f24
        have f26 : (d.2 == 1) = true → a.tmps.getD 26 undef = .int .i64 (bitI ((i : Int))) := f26
        have f23 : a.tmps.getD 23 undef = .bool (d.2 == 1) := f23
        refine rely_if (rely_gt f23) (NewT.refl _) hK (fun hE hK => ?_)
        exact opr_andI rfl (f24 hE) (f26 hE) (hK _ _ (NewT.refl _) rfl)
      · intro a wx hT hF K hK
        obtain ⟨f27, f23, _⟩ := hF
        have f27 : (d.2 == 1) = true → a.tmps.getD 27 undef = .int .i64 (andI (opnI g) (bitI ((i : Int)))) := f27
        have f23 : a.tmps.getD 23 undef = .bool (d.2 == 1) := f23
        refine rely_if (rely_gt f23) (NewT.refl _) hK (fun hE hK => ?_)
        exact opr_cmp (b := (andI (opnI g) (bitI ((i : Int)))) != 0) (.inr (.inl ⟨rfl, rfl⟩)) Tryd.underlying3 rfl (f27 hE) rfl (hK _ _ (NewT.refl _) rfl)
      · intro w5 k5
        iterate 4 (intro u h; obtain rfl := Eq.symm (h (by simp)); clear h)
        iterate 4 (intro _ _)
        intro u28 h; have g28 := h (by simp); clear h; replace g28 := show (svIf (d.2 == 1) (SV.eq (.bool ((andI (opnI g) (bitI ((i : Int)))) != 0)))).pred u28 w5 from g28
        refine relyEnd_nil rfl ?_
        simp only [Act.put, List.setIfInBounds_toArray, List.set_cons_zero, List.set_cons_succ]
        refine opr_pick_and (b := d.2 == 1) (e := (andI (opnI g) (bitI ((i : Int)))) != 0) rfl rfl (fun hb => g28 hb) ?_
        go_simp
        have HTG : Hid (isTg l (opnI g) i = ((d.2 == 1) && (andI (opnI g) (bitI (i : Int)) != 0))) := Lib.hid (by unfold isTg kdL; rw [HDD.out])
        replace V2 := Lib.hid (k5.row V2.out)
        replace V3 := Lib.hid (k5.row V3.out)
        replace V4 := Lib.hid (k5.row V4.out)
        replace HNV := Lib.hid (NewT.trans _ _ _ HNV.out k5)
        cases hq : ((d.2 == 1) && (andI (opnI g) (bitI (i : Int)) != 0))
        · gi_wp2
          refine ⟨(keepsOthers_below k5.out).from _, KeepBut.below k5.out, fun q hq2 => ?_, V2.out, V3.out, V4.out, HNV.out⟩
          rw [List.length_append, List.length_singleton] at hq2
          by_cases hqe : q < pre.length
          · exact HNO.out q hqe
          · have e : q = pre.length := by omega
            have e2 := HPRE.out
            have e3 : pre.length = l.length - 1 - i := by rw [e2, downL_len]
            rw [show l.length - 1 - q = i by omega, HTG.out, hq]
        · gi_upto_region 6 with fail
          refine wpIn_region_lit ?_
          refine wpListIn_wp (by kernel_rfl) (by simp) rfl (fun K hK => ?_)
          refine opr_mvV (.inl rfl) rfl (hK _ _ ?_)
          clear hK K
          simp only [Act.put, List.setIfInBounds_toArray, List.set_cons_zero, List.set_cons_succ]
          refine wpListIn_wp (by kernel_rfl) (by simp) rfl (fun K hK => ?_)
          refine opr_put1O (g := g2) (o0 := 0) (v := .int .i64 (i : Int)) (F := fun _ => .int .i64 (i : Int)) rfl rfl rfl V2.out (by decide) info_i1 rfl (fun j hj => by rw [if_pos (by omega)]) ?_
          intro wa hRa hKa ra
          refine hK _ _ ?_
          clear hK K
          simp only [Act.put, List.setIfInBounds_toArray, List.set_cons_zero, List.set_cons_succ]
          refine wpListIn_wp (by kernel_rfl) (by simp) rfl (fun K hK => ?_)
          refine opr_put1O (g := g3) (o0 := 0) (v := .bool true) (F := fun _ => .bool true) rfl rfl rfl (hRa.row (by have h_0 := HG.out; have h_1 := HGg4.out; omega) V3.out) (by decide) info_b1 rfl (fun j hj => by rw [if_pos (by omega)]) ?_
          intro wb hRb hKb rb
          refine hK _ _ ?_
          clear hK K
          refine wpListIn_end rfl ?_
          simp only [Act.put, List.setIfInBounds_toArray, List.set_cons_zero, List.set_cons_succ]
          go_simp
          gi_wp2
          refine ⟨((keepsOthers_below k5.out).trans (hKa.trans hKb)).from _, rfl, i, lastT_some (by rw [HTG.out, hq]) HIL.out (fun j h1 h2 => ?_), hRb.row (by have h_0 := HG.out; have h_1 := HGg4.out; omega) ra, rb, (HNV.out.rt hRa (by have h_0 := HG.out; have h_1 := HGg4.out; omega)).rt hRb (by have h_0 := HG.out; have h_1 := HGg4.out; omega)⟩
          have e3 : pre.length = l.length - 1 - i := by rw [HPRE.out, downL_len]
          have := HNO.out (l.length - 1 - j) (by omega)
          rwa [show l.length - 1 - (l.length - 1 - j) = j by omega] at this
    case done =>
      rintro D xs V hD hS' ⟨hno, hV2, hV3, hV4, hNV⟩ hK
      have HE : Hid (tgtO l g = none) := Lib.hid (lastT_none fun j hj => by
        have e : xs.length = l.length := by rw [hS', downL_len]
        have := hno (l.length - 1 - j) (by omega)
        rwa [show l.length - 1 - (l.length - 1 - j) = j by omega] at this)
      have V2 := Lib.hid hV2
      have V3 := Lib.hid hV3
      have HNV := Lib.hid hNV
      have HKD := Lib.hid hK
      clear hno hV2 hV3 hV4 hNV hK hS'
      gi_upto_region 7 with fail
      refine wpIn_wide.2 ?_
      refine wp_region_lit ?_
      refine wpList_plain rfl (fun K hK => ?_)
      refine opr_put1O (g := g2) (o0 := 0) (v := .int .i64 0) (F := fun _ => .int .i64 0) rfl rfl rfl V2.out (by decide) info_i1 rfl (fun j hj => by rw [if_pos (by omega)]) ?_
      intro wa hRa hKa ra
      refine hK _ _ ?_
      clear hK K
      simp only [Act.put, List.setIfInBounds_toArray, List.set_cons_zero, List.set_cons_succ]
      refine wpList_plain rfl (fun K hK => ?_)
      refine opr_put1O (g := g3) (o0 := 0) (v := .bool false) (F := fun _ => .bool false) rfl rfl rfl (hRa.row (by have h_0 := HG.out; have h_1 := HGg4.out; omega) V3.out) (by decide) info_b1 rfl (fun j hj => by rw [if_pos (by omega)]) ?_
      intro wb hRb hKb rb
      refine hK _ _ ?_
      clear hK K
      refine wpList_end rfl ?_
      simp only [Act.put, List.setIfInBounds_toArray, List.set_cons_zero, List.set_cons_succ]
      go_simp
      gi_wp2
      have hK2 := (hKa.trans hKb).same D _ HKD.out rfl
      refine ⟨by simp, .inl ⟨_, _, rfl, run_takeDeferred hK2, ?_⟩⟩
      have hDs : g2 < D ∧ g3 < D := by have := HGS.out; omega
      refine ⟨_, results_vv rfl rfl rfl (row_putO (hRb.row (by have h_0 := HG.out; have h_1 := HGg4.out; omega) ra) (by omega) _) (row_putO rb (by omega) _) Tryd.underlying3 rfl Tryd.underlying4 rfl, ?_, ?_⟩
      · rw [HE.out]; rfl
      · exact ((HNV.out.rt hRa (by have h_0 := HG.out; have h_1 := HGg4.out; omega)).rt hRb (by have h_0 := HG.out; have h_1 := HGg4.out; omega)).out.trans (below_putObj (by have := HM3.out.out.size; omega) _)
    case stop =>
      rintro D c0 pre2 V hD _ ⟨rfl, i, hE, hV2, hV3, hNV⟩ hK
      have HE : Hid (tgtO l g = some i) := Lib.hid hE
      clear hE
      gi_wp2
      refine ⟨by simp, .inl ⟨_, _, rfl, run_takeDeferred hK, ?_⟩⟩
      have hDs : g2 < D ∧ g3 < D := by have := HGS.out; omega
      refine ⟨_, results_vv rfl rfl rfl (row_putO hV2 (by omega) _) (row_putO hV3 (by omega) _) Tryd.underlying3 rfl Tryd.underlying4 rfl, ?_, ?_⟩
      · rw [HE.out]; rfl
      · exact hNV.out.trans (below_putObj (by have := HM3.out.out.size; omega) _)
theorem target_cv (sv : Value) (l : List (Int × Int)) (g : Sg) (w : World) (hs : RdP w sv l) (hl : l.length ≤ 6) : Cv 85 #[.agg (rowA 10 (sgF sv g))] w (.eq (.tuple #[.int .i64 (oI (tgtO l g)), .bool (tgtO l g).isSome])) := by
  obtain ⟨A0, c, rfl, h1, h2, h3⟩ := hs
  exact Cv.of_eq (target_any A0 c l g w ⟨A0, c, rfl, h1, h2, h3⟩ hl)
end Go.Proofs.YtilmeffmdgcblaaDoor
/- Sagas' numbers, as the program reckons, and how they stand: what is due, whether a record goes, and the saga behind it, of a saga that went by records from its beginning. -/
namespace Go.Proofs.YtilmeffmdgcblaaDoor
open Go Go.RowKit
set_option maxRecDepth 8000
set_option linter.all false
theorem bits_tg : ∀ (a : Fin 7) (p : Bool) (t r : Fin 8) (i : Fin 6), (andI (notI (orI ((2 ^ a.val - 1 : Nat) : Int) ((if p = true then 2 ^ a.val else 0 : Nat) : Int)) ((2 ^ t.val - 2 ^ r.val : Nat) : Int)) (bitI (i.val : Int)) != 0) = ((hasN (2 ^ a.val - 1) i.val || hasN (if p = true then 2 ^ a.val else 0) i.val) && !hasN (2 ^ t.val - 2 ^ r.val) i.val) := by decide +kernel
theorem bits_done : ∀ (a : Fin 6), orI ((2 ^ a.val - 1 : Nat) : Int) (bitI (a.val : Int)) = ((2 ^ (a.val + 1) - 1 : Nat) : Int) := by decide +kernel
theorem bits_out : ∀ (a : Fin 6) (p : Bool), notI ((if p = true then 2 ^ a.val else 0 : Nat) : Int) (bitI (a.val : Int)) = 0 := by decide +kernel
theorem bits_in : ∀ (a : Fin 6) (p : Bool), orI ((if p = true then 2 ^ a.val else 0 : Nat) : Int) (bitI (a.val : Int)) = ((2 ^ a.val : Nat) : Int) := by decide +kernel
theorem bits_und : ∀ (t : Fin 8) (r : Fin 7), r.val < t.val → orI ((2 ^ t.val - 2 ^ (r.val + 1) : Nat) : Int) (bitI (r.val : Int)) = ((2 ^ t.val - 2 ^ r.val : Nat) : Int) := by decide +kernel
theorem bits_miss : ∀ (a t : Fin 8), a.val ≤ t.val → notI ((2 ^ a.val - 1 : Nat) : Int) ((2 ^ t.val - 2 ^ 0 : Nat) : Int) = 0 := by decide +kernel
theorem Sg.eq_of {g h : Sg} (h1 : g.ph = h.ph) (h2 : g.at_ = h.at_) (h3 : g.tr = h.tr) (h4 : g.wt = h.wt) (h5 : g.bk = h.bk) (h6 : g.dn = h.dn) (h7 : g.un = h.un) (h8 : g.so = h.so) (h9 : g.sq = h.sq) : g = h := by
  cases g; cases h; simp at h1 h2 h3 h4 h5 h6 h7 h8 h9; simp [h1, h2, h3, h4, h5, h6, h7, h8, h9]
def kks (l : List (Int × Int)) : List Int := l.map (·.2)
theorem kks_len (l : List (Int × Int)) : (kks l).length = l.length := by simp [kks]
theorem kks_kd (l : List (Int × Int)) (i : Nat) : kd (kks l) i = kdL l i := kd_map l i
section
variable {l : List (Int × Int)} {s : St} {lim : Nat}
theorem inv_small (hm : mayL l = true) (hi : Inv (kks l) lim s) : s.a ≤ l.length ∧ l.length ≤ 6 ∧ s.top ≤ l.length ∧ s.r ≤ s.top ∧ s.ph ≤ 4 ∧ (s.ph = 1 → s.a < l.length) ∧ (s.w = true → s.ph = 0 → s.a < l.length) ∧ (s.w = true → s.ph < 2) ∧ s.t ≤ lim := by
  have h6 := (may_len hm).2
  have hl := kks_len l
  obtain ⟨ht, hF | hB⟩ := hi
  · have h1 := hF.a
    have h2 := hF.top
    have h3 := hF.r
    have h4 := hF.ph
    exact ⟨by omega, h6, by omega, by omega, by omega, fun h => by omega, fun hw _ => by have := (hF.w hw).2.1; omega, fun hw => by have := (hF.w hw).1; omega, ht⟩
  · have h1 := hB.a
    have h2 := hB.top
    have h3 := hB.r
    have h4 := hB.ph
    have h5 : s.top ≤ s.a + 1 := by split at h2 <;> omega
    exact ⟨by omega, h6, by omega, by omega, by omega, fun _ => by omega, fun _ h => by omega, fun hw => by have := (hB.w hw).1; omega, ht⟩
theorem ok_st (hm : mayL l = true) (hi : Inv (kks l) lim s) (hl : lim ≤ 9) {q : Int} (hq : 0 ≤ q ∧ q ≤ 1000000) : OkG l (ofSt s q) := by
  obtain ⟨h1, h2, _, _, _, _, _, _, h9⟩ := inv_small hm hi
  refine ⟨may_len hm, ?_, ?_, hq⟩
  · show (0 : Int) ≤ (s.a : Int) ∧ (s.a : Int) ≤ 6; omega
  · show (0 : Int) ≤ (s.t : Int) ∧ (s.t : Int) ≤ 9; omega
theorem in_st {q : Int} (h1 : 1 ≤ lim) (h2 : lim ≤ 9) (h4 : s.ph ≤ 4) : inG (lim : Int) (ofSt s q) = (!s.w && decide (s.ph < 2)) := by
  unfold inG
  rw [(inR_iff (lim : Int) 1 9).2 (by omega)]
  show (!((!true || s.w) || overB (s.ph : Int))) = _
  have : overB (s.ph : Int) = decide (2 ≤ s.ph) := by
    unfold overB
    rw [Bool.eq_iff_iff]
    simp only [Bool.or_eq_true, beq_iff_eq, decide_eq_true_eq]
    omega
  rw [this]
  have e : decide (2 ≤ s.ph) = !decide (s.ph < 2) := by
    by_cases h : s.ph < 2
    · rw [decide_eq_true h, decide_eq_false (by omega)]; rfl
    · rw [decide_eq_false h, decide_eq_true (by omega)]; rfl
  rw [e]
  cases s.w <;> simp
/-- The last of the first r. -/
theorem lastT_lt_r {f : Nat → Bool} {r : Nat} : ∀ {n : Nat}, (∀ i, i < n → f i = decide (i < r)) → r ≤ n → lastT f n = if r = 0 then none else some (r - 1) := by
  intro n h hr
  by_cases h0 : r = 0
  · rw [if_pos h0]
    exact lastT_none fun j hj => by rw [h j hj]; exact decide_eq_false (by omega)
  · rw [if_neg h0]
    exact lastT_some (by rw [h _ (by omega)]; exact decide_eq_true (by omega)) (by omega) fun j h1 h2 => by rw [h j h2]; exact decide_eq_false (by omega)
theorem isTg_st (hm : mayL l = true) (hi : Inv (kks l) lim s) {q : Int} {i : Nat} (h : i < l.length) : isTg l (opnI (ofSt s q)) i = undoB (kks l) s i := by
  obtain ⟨h1, h2, h3, h4, _⟩ := inv_small hm hi
  have hb := bits_tg ⟨s.a, by omega⟩ s.p ⟨s.top, by omega⟩ ⟨s.r, by omega⟩ ⟨i, by omega⟩
  unfold isTg undoB
  rw [kks_kd]
  have e : opnI (ofSt s q) = notI (orI ((doneN s : Nat) : Int) ((someN s : Nat) : Int)) ((undN s : Nat) : Int) := rfl
  rw [e]
  unfold doneN someN undN
  rw [hb, Bool.and_assoc]
theorem tgt_st (hm : mayL l = true) (hi : Inv (kks l) lim s) (h1 : s.ph = 1) {q : Int} : tgtO l (ofSt s q) = if s.r = 0 then none else some (s.r - 1) := by
  have hs := inv_small hm hi
  have hk : MayK (kks l) := may_kinds hm
  unfold tgtO
  refine lastT_lt_r (fun i h => ?_) (by omega)
  rw [isTg_st hm hi h]
  obtain ⟨_, hF | hB⟩ := hi
  · have := hF.ph; omega
  · exact undo_bw hk hB (by rw [kks_len]; exact h)
theorem next_st (hm : mayL l = true) (hi : Inv (kks l) lim s) {q : Int} (hp : s.ph < 2) :
    nextB l (ofSt s q) = (if s.ph = 1 then decide (0 < s.r) else decide (s.a < l.length)) ∧ (nextB l (ofSt s q) = true → nextI l (ofSt s q) = tgA s) := by
  have hs := inv_small hm hi
  by_cases h1 : s.ph = 1
  · have e : (ofSt s q).ph = 1 := by show (s.ph : Int) = 1; omega
    unfold nextB nextI tgA
    rw [if_pos e, if_pos e, if_pos h1, if_pos h1, tgt_st hm hi h1]
    by_cases h0 : s.r = 0
    · rw [if_pos h0]; exact ⟨by rw [h0]; rfl, fun h => by cases h⟩
    · rw [if_neg h0]
      exact ⟨by rw [decide_eq_true (by omega)]; rfl, fun _ => by show ((s.r - 1 : Nat) : Int) = _; omega⟩
  · have e : ¬ (ofSt s q).ph = 1 := by show ¬ (s.ph : Int) = 1; omega
    unfold nextB nextI tgA
    rw [if_neg e, if_neg e, if_neg h1, if_neg h1]
    have e2 : inR (ofSt s q).at_ 0 ((l.length : Int) - 1) = decide (s.a < l.length) := by
      rw [Bool.eq_iff_iff, inR_iff, decide_eq_true_eq]
      show (0 : Int) ≤ (s.a : Int) ∧ (s.a : Int) ≤ _ ↔ _
      omega
    refine ⟨e2, fun h => ?_⟩
    rw [if_pos h]; rfl
/-- What is due goes. -/
theorem go_due (hm : mayL l = true) (hi : Inv (kks l) lim s) (h1 : 1 ≤ lim) (h9 : lim ≤ 9) {q : Int} (hw : s.w = false) (hp : s.ph < 2) {x : Rc} (hx : x = { dueX l (lim : Int) (ofSt s q) with seq := q }) :
    goesB l (lim : Int) (ofSt s q) x = true ∧ wentG l (lim : Int) (ofSt s q) x = ofSt (dueA (kks l).length lim s) (q + 1) := by
  have hs := inv_small hm hi
  have hin : inG (lim : Int) (ofSt s q) = true := by rw [in_st h1 h9 hs.2.2.2.2.1, hw]; simpa using hp
  obtain ⟨hb, hn⟩ := next_st hm hi (q := q) hp
  have hfit : fitsB l (lim : Int) (ofSt s q) x = true := by
    unfold fitsB
    have hk : x.kind = 2 ∨ x.kind = 5 := by
      rw [hx]
      show (dueX l (lim : Int) (ofSt s q)).kind = 2 ∨ (dueX l (lim : Int) (ofSt s q)).kind = 5
      unfold dueX
      rw [if_pos hin]
      split
      · split
        · exact .inl rfl
        · exact .inr rfl
      · split <;> exact .inr rfl
    rw [if_pos hk, hx]
    unfold isDueB
    rw [hin]
    simp
  have hg : goesB l (lim : Int) (ofSt s q) x = true := by
    unfold goesB
    rw [hfit, (inR_iff (lim : Int) 1 9).2 (by omega), hx]
    show (!((!true || (q != q)) || !true)) = true
    simp
  refine ⟨hg, ?_⟩
  unfold wentG
  rw [if_pos hg]
  have e1 : (((ofSt s q).ph : Int) = 1) ↔ s.ph = 1 := by show (s.ph : Int) = 1 ↔ _; omega
  have closed : ∀ e : Nat, dueX l (lim : Int) (ofSt s q) = clR (e : Int) → behG l (lim : Int) (ofSt s q) x = ofSt { s with ph := e } (q + 1) := fun e he => by
    rw [hx, he]
    unfold behG
    rw [if_neg (by show ¬ (5 : Int) = 2; omega), if_pos (by show (5 : Int) = 5; rfl)]
    refine Sg.eq_of rfl rfl rfl ?_ ?_ rfl rfl rfl rfl
    · show ((5 : Int) == 2) = s.w; rw [hw]; rfl
    · show (((5 : Int) == 2) && (clR (e : Int)).back) = (s.w && (e == 1)); rw [hw]; rfl
  have intent : dueX l (lim : Int) (ofSt s q) = { zR with kind := 2, step := nextI l (ofSt s q), tr := (ofSt s q).tr + 1, back := (ofSt s q).ph == 1 } → behG l (lim : Int) (ofSt s q) x = ofSt { s with t := s.t + 1, w := true } (q + 1) := fun he => by
    rw [hx, he]
    unfold behG
    rw [if_pos rfl]
    refine Sg.eq_of rfl rfl ?_ rfl ?_ rfl rfl rfl rfl
    · show (s.t : Int) + 1 = ((s.t + 1 : Nat) : Int); omega
    · show (((2 : Int) == 2) && ((s.ph : Int) == 1)) = (true && (s.ph == 1))
      rw [Bool.eq_iff_iff]; simp; omega
  have hd : dueX l (lim : Int) (ofSt s q) = (if nextB l (ofSt s q) = true then (if (ofSt s q).tr < (lim : Int) then { zR with kind := 2, step := nextI l (ofSt s q), tr := (ofSt s q).tr + 1, back := (ofSt s q).ph == 1 } else clR 4) else if (ofSt s q).ph = 1 then clR 3 else clR 2) := by unfold dueX; rw [if_pos hin]
  unfold dueA
  rw [kks_len]
  have htr : ((ofSt s q).tr < (lim : Int)) ↔ s.t < lim := by show (s.t : Int) < _ ↔ _; omega
  by_cases h0 : s.ph = 1
  · rw [if_neg (by omega), if_pos h0]
    rw [if_pos h0] at hb
    by_cases hr : s.r = 0
    · rw [if_pos hr]
      exact closed 3 (by rw [hd, hb, hr, if_neg (by simp), if_pos (e1.2 h0)]; rfl)
    · rw [if_neg hr]
      have hb' : nextB l (ofSt s q) = true := by rw [hb]; simpa using Nat.pos_of_ne_zero hr
      by_cases ht : s.t < lim
      · rw [if_pos ht]
        exact intent (by rw [hd, hb', if_pos rfl, if_pos (htr.2 ht)])
      · rw [if_neg ht]
        exact closed 4 (by rw [hd, hb', if_pos rfl, if_neg (fun h => ht (htr.1 h))]; rfl)
  · have h00 : s.ph = 0 := by omega
    rw [if_pos h00]
    rw [if_neg h0] at hb
    by_cases ha : s.a = l.length
    · rw [if_pos ha]
      exact closed 2 (by rw [hd, hb, ha, if_neg (by simp), if_neg (fun h => h0 (e1.1 h))]; rfl)
    · rw [if_neg ha]
      have hb' : nextB l (ofSt s q) = true := by rw [hb]; exact decide_eq_true (by omega)
      by_cases ht : s.t < lim
      · rw [if_pos ht]
        exact intent (by rw [hd, hb', if_pos rfl, if_pos (htr.2 ht)])
      · rw [if_neg ht]
        exact closed 4 (by rw [hd, hb', if_pos rfl, if_neg (fun h => ht (htr.1 h))]; rfl)
/-- An answer goes. -/
theorem go_ans (hm : mayL l = true) (hi : Inv (kks l) lim s) (h1 : 1 ≤ lim) (h9 : lim ≤ 9) {q : Int} (hw : s.w = true) {x : Rc} {a : Nat} (ha : a < 3) (hk : x.kind = if a = 2 then 4 else 3) (hgd : x.good = (a == 0)) (hst : x.step = tgA s) (htr : x.tr = s.t) (hbk : x.back = (s.ph == 1)) (hsq : x.seq = q) :
    goesB l (lim : Int) (ofSt s q) x = true ∧ wentG l (lim : Int) (ofSt s q) x = ofSt (ansA (kks l) lim a s) (q + 1) := by
  have hs := inv_small hm hi
  have hp : s.ph < 2 := hs.2.2.2.2.2.2.2.1 hw
  obtain ⟨hb, hn⟩ := next_st hm hi (q := q) hp
  have hb' : nextB l (ofSt s q) = true := by
    rw [hb]
    by_cases h0 : s.ph = 1
    · rw [if_pos h0]
      obtain ⟨_, hF | hB⟩ := hi
      · have := hF.ph; omega
      · exact decide_eq_true (hB.w hw).2.1
    · rw [if_neg h0]; exact decide_eq_true (hs.2.2.2.2.2.2.1 hw (by omega))
  have hk34 : x.kind = 3 ∨ x.kind = 4 := by rw [hk]; split <;> simp
  have hfit : fitsB l (lim : Int) (ofSt s q) x = true := by
    unfold fitsB
    rw [if_neg (by omega), if_pos hk34]
    unfold isOutB
    rw [hb', hn hb', hst, htr, hbk]
    show ((((s.w && true) && (tgA s == tgA s)) && ((s.t : Int) == (s.t : Int))) && ((s.ph == 1) == (s.w && s.ph == 1))) = true
    rw [hw]; simp
  have hg : goesB l (lim : Int) (ofSt s q) x = true := by
    unfold goesB
    rw [hfit, (inR_iff (lim : Int) 1 9).2 (by omega), hsq]
    show (!((!true || (q != q)) || !true)) = true
    simp
  refine ⟨hg, ?_⟩
  unfold wentG
  rw [if_pos hg]
  unfold behG ansA
  have nb : (x.kind == 2) = false := by simpa using (show ¬ x.kind = 2 by omega)
  have hbeg : begG (ofSt s q) x = ofSt { s with w := false } (q + 1) := Sg.eq_of rfl rfl rfl (by show (x.kind == 2) = false; exact nb) (by show ((x.kind == 2) && x.back) = (false && (s.ph == 1)); rw [nb]; rfl) rfl rfl rfl rfl
  rw [hbeg, if_neg (by omega), if_neg (by omega)]
  by_cases h0 : s.ph = 0
  · have hal := hs.2.2.2.2.2.2.1 hw h0
    have hb0 : x.back = false := by rw [hbk, h0]; rfl
    have hst0 : x.step = (s.a : Int) := by rw [hst]; unfold tgA; rw [if_neg (by omega)]
    have htn : x.step.toNat = s.a := by rw [hst0]; exact Int.toNat_natCast _
    have hun : undN s = 0 := by
      obtain ⟨_, hF | hB⟩ := hi
      · unfold undN; rw [hF.top, hF.r]
      · have := hB.ph; omega
    have hpz : ((s.ph : Int)) = 0 := by omega
    rw [if_pos h0]
    by_cases a0 : a = 0
    · rw [if_pos a0]
      rw [a0, if_neg (by omega)] at hk
      rw [if_pos hk, if_pos (by rw [hgd, a0]; rfl)]
      unfold wellG
      rw [hb0, if_neg (by simp), hst0]
      refine Sg.eq_of rfl ?_ rfl rfl rfl ?_ rfl ?_ rfl
      · show (s.a : Int) + 1 = ((s.a + 1 : Nat) : Int); omega
      · exact bits_done ⟨s.a, by omega⟩
      · exact bits_out ⟨s.a, by omega⟩ s.p
    rw [if_neg a0]
    have hg0 : ¬ x.good = true := by rw [hgd]; simpa using a0
    by_cases a1 : a = 1
    · rw [if_pos a1]
      rw [a1, if_neg (by omega)] at hk
      rw [if_pos hk, if_neg hg0, if_pos hb0]
      unfold refG
      rw [htn, ← kks_kd]
      have hkr := (may_step hm hal).2.1
      rw [← kks_kd] at hkr
      by_cases k3 : kd (kks l) s.a < 3
      · rw [if_pos k3, if_neg (by omega)]
        unfold turnG
        rw [hst0]
        refine Sg.eq_of rfl rfl rfl rfl rfl rfl ?_ ?_ rfl
        · show ((undN s : Nat) : Int) = ((2 ^ s.a - 2 ^ s.a : Nat) : Int); rw [hun, Nat.sub_self]
        · exact bits_out ⟨s.a, by omega⟩ s.p
      · rw [if_neg k3, if_pos (by omega)]
    rw [if_neg a1]
    have a2 : a = 2 := by omega
    rw [a2, if_pos rfl] at hk
    rw [if_neg (by omega), if_pos hk]
    unfold lapG
    rw [hb0, if_neg (by simp), htn, ← kks_kd, hst0]
    have hin := bits_in ⟨s.a, by omega⟩ s.p
    have htl : ((ofSt { s with w := false } (q + 1)).tr = (lim : Int)) ↔ s.t = lim := by show (s.t : Int) = _ ↔ _; omega
    by_cases k1 : kd (kks l) s.a = 1 ∧ s.t = lim
    · rw [if_pos k1, if_pos ⟨k1.1, htl.2 k1.2⟩]
      unfold turnG
      refine Sg.eq_of rfl rfl rfl rfl rfl rfl ?_ ?_ rfl
      · show ((undN s : Nat) : Int) = ((2 ^ (s.a + 1) - 2 ^ (s.a + 1) : Nat) : Int); rw [hun, Nat.sub_self]
      · exact hin
    · rw [if_neg k1, if_neg (fun h => k1 ⟨h.1, htl.1 h.2⟩)]
      exact Sg.eq_of rfl rfl rfl rfl rfl rfl rfl hin rfl
  · have h11 : s.ph = 1 := by omega
    have hb1 : x.back = true := by rw [hbk, h11]; rfl
    have hr0 : 0 < s.r := by
      obtain ⟨_, hF | hB⟩ := hi
      · have := hF.ph; omega
      · exact (hB.w hw).2.1
    have hst1 : x.step = ((s.r - 1 : Nat) : Int) := by rw [hst]; unfold tgA; rw [if_pos h11]; omega
    rw [if_neg h0]
    by_cases a0 : a = 0
    · rw [if_pos a0]
      rw [a0, if_neg (by omega)] at hk
      rw [if_pos hk, if_pos (by rw [hgd, a0]; rfl)]
      unfold wellG
      rw [hb1, if_pos rfl, hst1]
      refine Sg.eq_of rfl rfl rfl rfl rfl rfl ?_ rfl rfl
      have := bits_und ⟨s.top, by omega⟩ ⟨s.r - 1, by omega⟩ (by show s.r - 1 < s.top; omega)
      show orI ((2 ^ s.top - 2 ^ s.r : Nat) : Int) (bitI ((s.r - 1 : Nat) : Int)) = ((2 ^ s.top - 2 ^ (s.r - 1) : Nat) : Int)
      rw [← this]
      simp only [Nat.sub_add_cancel hr0]
    · rw [if_neg a0]
      have hg0 : ¬ x.good = true := by rw [hgd]; simpa using a0
      have hl : lapG l (lim : Int) (ofSt { s with w := false } (q + 1)) x.back x.step = ofSt { s with w := false } (q + 1) := by unfold lapG; rw [if_pos hb1]
      by_cases a2 : a = 2
      · rw [a2, if_pos rfl] at hk
        rw [if_neg (by omega), if_pos hk, hl]
      · rw [if_neg a2] at hk
        rw [if_pos hk, if_neg hg0, if_neg (by rw [hb1]; simp), hl]
/-- A saga that is over goes by no record. -/
theorem go_over (hm : mayL l = true) (hi : Inv (kks l) lim s) (h1 : 1 ≤ lim) (h9 : lim ≤ 9) {q : Int} (hp : 2 ≤ s.ph) (x : Rc) : goesB l (lim : Int) (ofSt s q) x = false := by
  have hs := inv_small hm hi
  have hw : s.w = false := by
    cases hw : s.w with
    | false => rfl
    | true => have := hs.2.2.2.2.2.2.2.1 hw; omega
  have hf : fitsB l (lim : Int) (ofSt s q) x = false := by
    unfold fitsB
    split
    · unfold isDueB
      rw [in_st h1 h9 hs.2.2.2.2.1, hw, decide_eq_false (by omega)]; rfl
    · split
      · unfold isOutB
        rw [show (ofSt s q).wt = false from hw]; simp
      · rfl
  unfold goesB
  rw [hf, Bool.not_false, Bool.or_true]; rfl
theorem miss_st (hm : mayL l = true) (hi : Inv (kks l) lim s) {q : Int} (h : s.ph = 2 ∨ s.ph = 3) : missG (ofSt s q) = 0 := by
  have hs := inv_small hm hi
  unfold missG
  rcases h with h | h
  · rw [if_pos (by show ((s.ph : Int) == 2) = true; rw [h]; rfl)]
  · rw [if_neg (by show ¬ ((s.ph : Int) == 2) = true; rw [h]; decide)]
    obtain ⟨_, hF | hB⟩ := hi
    · have := hF.ph; omega
    · have ht := hB.top
      have hle : s.a ≤ s.top := by split at ht <;> omega
      have := bits_miss ⟨s.a, by omega⟩ ⟨s.top, by omega⟩ hle
      show notI ((2 ^ s.a - 1 : Nat) : Int) ((2 ^ s.top - 2 ^ s.r : Nat) : Int) = 0
      rw [hB.three h]
      exact this
end
end Go.Proofs.YtilmeffmdgcblaaDoor
/- Books, on lists: a book as its epochs and its sagas' steps and numbers; whether a record goes, and the book behind it; what stands behind records that all go. No program is named here. -/
namespace Go.Proofs.YtilmeffmdgcblaaDoor
open Go Go.RowKit
set_option maxRecDepth 8000
set_option linter.all false
abbrev Ug := List (Int × Int) × Sg
structure Bk where
  ep : Nat → Int
  sg : List Ug
def zK : Bk := ⟨fun _ => 0, []⟩
def sgAt (K : Bk) (k : Nat) : Ug := K.sg.getD k ([], zG)
def isFromB (K : Bk) (x : Rc) : Bool :=
  if x.saga < K.sg.length then (if x.step < (sgAt K x.saga.toNat).1.length then x.part == ptL (sgAt K x.saga.toNat).1 x.step.toNat && x.epoch == K.ep x.part.toNat else false) else false
def onB (lim : Int) (K : Bk) (x : Rc) : Bool := if x.saga < K.sg.length then goesB (sgAt K x.saga.toNat).1 lim (sgAt K x.saga.toNat).2 x else false
def onK (lim : Int) (K : Bk) (x : Rc) : Bk := if x.saga < K.sg.length then { K with sg := K.sg.set x.saga.toNat ((sgAt K x.saga.toNat).1, wentG (sgAt K x.saga.toNat).1 lim (sgAt K x.saga.toNat).2 x) } else K
def begB (K : Bk) (x : Rc) : Bool := if x.saga = K.sg.length then mayL x.steps else false
def begK (K : Bk) (x : Rc) : Bk := { K with sg := K.sg ++ [(newL x.steps, newG x.steps)] }
def rotB (K : Bk) (x : Rc) : Bool := x.epoch == K.ep x.part.toNat + 1
def rotK (K : Bk) (x : Rc) : Bk := { K with ep := fun i => if i = x.part.toNat then x.epoch else K.ep i }
def ansB (lim : Int) (K : Bk) (x : Rc) : Bool := isFromB K x && onB lim K x
def begN (K : Bk) (x : Rc) : Bk := if begB K x = true then begK K x else K
def rotN (K : Bk) (x : Rc) : Bk := if rotB K x = true then rotK K x else K
def ansN2 (lim : Int) (K : Bk) (x : Rc) : Bk := if ansB lim K x = true then onK lim K x else K
/-- Does a record go by its kind's way? -/
def wayB (lim : Int) (K : Bk) (x : Rc) : Bool := if x.kind = 1 then begB K x else if x.kind = 3 then ansB lim K x else if x.kind = 6 then rotB K x else onB lim K x
def wayK (lim : Int) (K : Bk) (x : Rc) : Bk := if x.kind = 1 then begK K x else if x.kind = 6 then rotK K x else onK lim K x
def goesK (lim : Int) (K : Bk) (x : Rc) : Bool := (inR lim 1 9 && rightB x) && wayB lim K x
def wentK (lim : Int) (K : Bk) (x : Rc) : Bk := if goesK lim K x = true then wayK lim K x else K
/-- Numbers that are small enough. -/
structure OkK (K : Bk) : Prop where
  len : K.sg.length ≤ 1000
  sg : ∀ p ∈ K.sg, OkG p.1 p.2
  ep : ∀ i, 0 ≤ K.ep i ∧ K.ep i ≤ 1000000
theorem sgAt_some {K : Bk} {k : Nat} (h : k < K.sg.length) : K.sg[k]? = some (sgAt K k) := by simp [sgAt, List.getD, h]
theorem set_same {α : Type} {l : List α} {k : Nat} {p : α} (h : l[k]? = some p) : l.set k p = l := by
  obtain ⟨hk, rfl⟩ := List.getElem?_eq_some_iff.1 h
  exact List.set_getElem_self hk
theorem onK_no {lim : Int} {K : Bk} {x : Rc} (h : onB lim K x = false) : onK lim K x = K := by
  unfold onK
  split
  next h1 =>
    unfold onB at h
    rw [if_pos h1] at h
    unfold wentG
    rw [if_neg (by rw [h]; simp)]
    have : 0 ≤ x.saga ∨ x.saga < 0 := by omega
    by_cases hk : x.saga.toNat < K.sg.length
    · show (⟨K.ep, K.sg.set x.saga.toNat (sgAt K x.saga.toNat)⟩ : Bk) = K
      rw [set_same (sgAt_some hk)]
    · show (⟨K.ep, K.sg.set x.saga.toNat (sgAt K x.saga.toNat)⟩ : Bk) = K
      rw [List.set_eq_of_length_le (by omega)]
  next => rfl
/-- What a right record has. -/
theorem right_saga {x : Rc} (h : rightB x = true) : 0 ≤ x.saga ∧ x.saga ≤ 11 := by
  unfold rightB at h
  repeat' split at h
  all_goals simp only [Bool.and_eq_true, inR_iff, beq_iff_eq, Bool.false_eq_true] at h
  all_goals omega
theorem right_part {x : Rc} (h : rightB x = true) : 0 ≤ x.part ∧ x.part ≤ 3 := by
  unfold rightB at h
  repeat' split at h
  all_goals simp only [Bool.and_eq_true, inR_iff, beq_iff_eq, Bool.false_eq_true] at h
  all_goals omega
theorem right_step {x : Rc} (h : rightB x = true) : 0 ≤ x.step ∧ x.step ≤ 5 := by
  unfold rightB isCall noCall at h
  repeat' split at h
  all_goals simp only [Bool.and_eq_true, inR_iff, beq_iff_eq, Bool.false_eq_true] at h
  all_goals omega
theorem right_good {x : Rc} (h : rightB x = true) (h4 : x.kind = 4) : x.good = false := by
  unfold rightB noReceipt at h
  rw [if_neg (by omega), if_pos (.inr h4)] at h
  simp only [Bool.and_eq_true, Bool.not_eq_true'] at h
  exact h.1.1.1.1.2.1
/-- A record that goes leaves a saga as records make it. -/
theorem goes_st {l : List (Int × Int)} {s : St} {lim : Nat} (hm : mayL l = true) (hi : Inv (kks l) lim s) (h1 : 1 ≤ lim) (h9 : lim ≤ 9) {q : Int} {x : Rc} (hgd : x.kind = 4 → x.good = false) (h : goesB l (lim : Int) (ofSt s q) x = true) :
    ∃ s', wentG l (lim : Int) (ofSt s q) x = ofSt s' (q + 1) ∧ Inv (kks l) lim s' := by
  have hs := inv_small hm hi
  have hp : s.ph < 2 := by
    by_cases hp : 2 ≤ s.ph
    · rw [go_over hm hi h1 h9 hp] at h; cases h
    · omega
  have hx := h
  unfold goesB at hx
  simp only [Bool.not_eq_true', Bool.or_eq_false_iff, Bool.not_eq_false', bne_eq_false_iff_eq] at hx
  obtain ⟨⟨_, hsq⟩, hf⟩ := hx
  have hsq : x.seq = q := hsq
  unfold fitsB at hf
  split at hf
  next hk =>
    unfold isDueB at hf
    simp only [Bool.and_eq_true, beq_iff_eq] at hf
    obtain ⟨⟨⟨⟨⟨hg, e1⟩, e2⟩, e3⟩, e4⟩, e5⟩ := hf
    have hw : s.w = false := by
      rw [in_st h1 h9 hs.2.2.2.2.1] at hg
      cases hw : s.w with
      | false => rfl
      | true => rw [hw] at hg; cases hg
    have hd := go_due hm hi h1 h9 hw hp (q := q) (x := { dueX l (lim : Int) (ofSt s q) with seq := q }) rfl
    refine ⟨nextA (kks l) lim 0 s, ?_, next_inv (may_kinds hm) hi⟩
    have hn : dueA (kks l).length lim s = nextA (kks l) lim 0 s := by unfold nextA; rw [hw]; rfl
    have hb : behG l (lim : Int) (ofSt s q) x = behG l (lim : Int) (ofSt s q) { dueX l (lim : Int) (ofSt s q) with seq := q } := by
      have hk' : (dueX l (lim : Int) (ofSt s q)).kind = 2 ∨ (dueX l (lim : Int) (ofSt s q)).kind = 5 := by rw [← e1]; exact hk
      unfold behG begG
      show (if x.kind = 2 then _ else if x.kind = 5 then _ else _) = (if (dueX l (lim : Int) (ofSt s q)).kind = 2 then _ else if (dueX l (lim : Int) (ofSt s q)).kind = 5 then _ else _)
      rw [e1]
      rcases hk' with hk' | hk'
      · rw [if_pos hk', if_pos hk', e3, e4]
      · have hk2 : ¬ (dueX l (lim : Int) (ofSt s q)).kind = 2 := by omega
        rw [if_neg hk2, if_neg hk2, if_pos hk', if_pos hk', e4, e5]
    have h2 := hd.2
    unfold wentG at h2 ⊢
    rw [if_pos hd.1] at h2
    rw [if_pos h, hb, h2]
    rw [hn]
  next =>
    split at hf
    next hk =>
      unfold isOutB at hf
      simp only [Bool.and_eq_true, beq_iff_eq] at hf
      obtain ⟨⟨⟨⟨hw, hb⟩, e2⟩, e3⟩, e4⟩ := hf
      have hw : s.w = true := hw
      obtain ⟨_, hn⟩ := next_st hm hi (q := q) hp
      have ha := go_ans hm hi h1 h9 (q := q) hw (x := x) (a := if x.kind = 4 then 2 else if x.good = true then 0 else 1) (by split; omega; split <;> omega)
        (by rcases hk with hk | hk
            · rw [if_neg (show ¬ x.kind = 4 by omega)]; split <;> simp [hk]
            · rw [if_pos hk]; simp [hk])
        (by
          by_cases k4 : x.kind = 4
          · rw [if_pos k4, hgd k4]; rfl
          · rw [if_neg k4]; cases x.good <;> rfl) (by rw [e2, hn hb]) (by rw [e3]; rfl) (by rw [e4]; show (s.w && s.ph == 1) = _; rw [hw]; rfl) hsq
      exact ⟨_, ha.2, by have := next_inv (lim := lim) (ans := if x.kind = 4 then 2 else if x.good = true then 0 else 1) (may_kinds hm) hi; unfold nextA at this; rw [if_pos hw] at this; exact this⟩
    next => cases hf
end Go.Proofs.YtilmeffmdgcblaaDoor
/- Books, sagas, records and lines in memory: what their slices read as; elements, fields, loads; books as rows of five cells; pairs of a book or a saga and a word. -/
namespace Go.Proofs.YtilmeffmdgcblaaDoor
open Go Go.RowKit
set_option maxRecDepth 8000
set_option linter.all false
def sgE (w : World) (f : Nat → Value) (p : Ug) : Prop := ∃ sv, f = sgF sv p.2 ∧ RdP w sv p.1
instance : StbE sgE := ⟨fun ⟨sv, h1, h2⟩ hN => ⟨sv, h1, hN.pairs h2⟩⟩
def rcE (w : World) (f : Nat → Value) (x : Rc) : Prop := ∃ sv dv, f = recF x sv dv ∧ RdP w sv x.steps ∧ RdV w [] dv x.data
instance : StbE rcE := ⟨fun ⟨sv, dv, h1, h2, h3⟩ hN => ⟨sv, dv, h1, hN.pairs h2, hN.rd h3⟩⟩
def lnE (_ : World) (f : Nat → Value) (p : Int × Int) : Prop := f = stepF p
instance : StbE lnE := ⟨fun h _ => h⟩
abbrev RdU := RdL 10 sgE
abbrev RdR := RdL 109 rcE
abbrev RdN := RdL 2 lnE
theorem ElTy.of' {P : Program} {sT eT : TypeId} {n : Nat} {z : Value} {d : TypeDesc} (h1 : P.underlying sT = some (.slice eT)) (h2 : (P.info? eT).map (fun i => (i.zero, i.size, decide (i.bytes ≤ 1000))) = some (some z, n, true)) (hz : z.cells.size = n) (h0 : 0 < n) (h3 : P.underlying eT = some d) (h4 : d.isRow = true) : ElTy P sT eT n := by
  refine ⟨h1, ?_, h0, d, h3, h4⟩
  cases hq : P.info? eT with
  | none => rw [hq] at h2; cases h2
  | some i => rw [hq] at h2; simp at h2; exact ⟨i, z, rfl, h2.1, h2.2.1, h2.2.2, hz⟩
theorem sagaEl : ElTy Tryd.prog 35 59 10 := ElTy.of' (z := .agg (rowA 10 (sgF (.slice none 0 0) zG))) Tryd.underlying35 (by kernel_rfl) (by rw [show (Value.agg (rowA 10 (sgF (.slice none 0 0) zG))).cells = rowA 10 (sgF (.slice none 0 0) zG) from rfl, rowA_size]) (by omega) Tryd.underlying59 rfl
theorem recEl : ElTy Tryd.prog 22 32 109 := ElTy.of' (z := .agg (rowA 109 (recF zR (.slice none 0 0) (.slice none 0 0)))) Tryd.underlying22 (by kernel_rfl) (by rw [show (Value.agg (rowA 109 (recF zR (.slice none 0 0) (.slice none 0 0)))).cells = rowA 109 (recF zR (.slice none 0 0) (.slice none 0 0)) from rfl, rowA_size]) (by omega) Tryd.underlying32 rfl
theorem lineEl : ElTy Tryd.prog 41 45 2 := ElTy.of' (z := .agg (rowA 2 (stepF (0, 0)))) Tryd.underlying41 (by kernel_rfl) (by rw [show (Value.agg (rowA 2 (stepF (0, 0)))).cells = rowA 2 (stepF (0, 0)) from rfl, rowA_size]) (by omega) Tryd.underlying45 rfl
/-- A place where steps lie. -/
def svStsP (l : List (Int × Int)) : SV NewT := ⟨fun v w => ∃ b o sv, v = .pointer (some ⟨b, o, none⟩) ∧ w.cell? ⟨b, o, none⟩ = some sv ∧ RdP w sv l,
  fun _ _ _ ⟨b, o, sv, h1, h2, h3⟩ hT => ⟨b, o, sv, h1, (hT.out.cell (World.block_lt_of_cell? _ _ h2)).trans h2, hT.pairs h3⟩⟩
/-- The cells of a book. -/
def bkF (ep : Nat → Int) (sv : Value) (i : Nat) : Value := if i < 4 then .int .i64 (ep i) else sv
def epF (ep : Nat → Int) (i : Nat) : Value := .int .i64 (ep i)
def epB (a b : Nat → Int) : Bool := ((a 0 == b 0 && a 1 == b 1) && a 2 == b 2) && a 3 == b 3
theorem bkF_one (ep : Nat → Int) (sv : Value) (h : sv.oneCell' = true) (i : Nat) : (bkF ep sv i).oneCell' = true := by
  unfold bkF; split; rfl; exact h
theorem bkF_ep {ep : Nat → Int} {sv : Value} {k : Nat} (h : k < 4) : bkF ep sv k = .int .i64 (ep k) := if_pos h
theorem bs_sg (ep : Nat → Int) (sv z : Value) (i : Nat) (hi : i < 5) : bkF ep z i = if i = 4 then z else bkF ep sv i := by
  unfold bkF
  by_cases h : i = 4
  · rw [if_neg (by omega), if_pos h]
  · rw [if_pos (by omega), if_neg h, if_pos (by omega)]
theorem bs_ep (ep : Nat → Int) (sv : Value) (k : Nat) (z : Int) (hk : k < 4) (i : Nat) (_ : i < 5) : bkF (fun j => if j = k then z else ep j) sv i = if i = k then .int .i64 z else bkF ep sv i := by
  unfold bkF
  by_cases h : i = k
  · subst h; rw [if_pos hk, if_pos rfl]; show Value.int .i64 (if i = i then z else ep i) = _; rw [if_pos rfl]
  · rw [if_neg h]; show (if i < 4 then Value.int .i64 (if i = k then z else ep i) else sv) = _; rw [if_neg h]
def BkV (w : World) (v : Value) (K : Bk) : Prop := ∃ sv, v = .agg (rowA 5 (bkF K.ep sv)) ∧ RdU w sv K.sg
theorem BkV.new {w w' : World} {v : Value} {K : Bk} (h : BkV w v K) (hN : NewT w w') : BkV w' v K := by
  obtain ⟨sv, h1, h2⟩ := h; exact ⟨sv, h1, h2.new hN⟩
theorem info_book : (Tryd.prog.info? 37).map (·.size) = some 5 := by kernel_rfl
theorem info_ep4 : (Tryd.prog.info? 34).map (·.size) = some 4 := by kernel_rfl
theorem info_ep5 : (Tryd.prog.info? 34).map (·.size) = some (3 + 1) := by kernel_rfl
theorem info_us1 : (Tryd.prog.info? 35).map (·.size) = some (0 + 1) := by kernel_rfl
theorem info_us : (Tryd.prog.info? 35).map (·.size) = some 1 := by kernel_rfl
theorem info_line : (Tryd.prog.info? 45).map (·.size) = some 2 := by kernel_rfl
theorem run_alloc_book (w : World) : (Instr.alloc 37 true (.tuple #[])).run Tryd.prog w = .ok (.pointer (some ⟨w.heap.size, 0, none⟩)) (w.alloc (.cells (rowA 5 (bkF zK.ep (.slice none 0 0))) 37)) := by kernel_rfl
theorem run_alloc_line (w : World) : (Instr.alloc 45 true (.tuple #[])).run Tryd.prog w = .ok (.pointer (some ⟨w.heap.size, 0, none⟩)) (w.alloc (.cells (rowA 2 (stepF (0, 0))) 45)) := by kernel_rfl
theorem build_book0 (w : World) : (Instr.build 37 #[]).run Tryd.prog w = .ok (.agg (rowA 5 (bkF zK.ep (.slice none 0 0)))) w := by kernel_rfl
section
variable {a : Act} {w : World} {o : Oper} {K : Act → World → Prop} {Q : Exit → Act → World → Prop} {x y : Operand} {g : Nat} {t' : TypeId} {F : Nat → Value}
theorem opr_ldUg {p : Ug} (ho : o.op = .load 59 x) (hx : (svEl 10 sgE p).pred (a.eval x) w) (h : ∀ v, (svSg p.1 p.2).pred v w → K (a.put o.dst v) w) : o.wp Tryd.prog a w K Q :=
  opr_ldL sagaEl ho hx fun v ⟨_, h1, sv, h2, h3⟩ => h v ⟨sv, by rw [h1, h2], h3⟩
theorem opr_ldRcE {p : Rc} (ho : o.op = .load 32 x) (hx : (svEl 109 rcE p).pred (a.eval x) w) (h : ∀ v, (svRec p).pred v w → K (a.put o.dst v) w) : o.wp Tryd.prog a w K Q :=
  opr_ldL recEl ho hx fun v ⟨_, h1, sv, dv, h2, h3, h4⟩ => h v ⟨sv, dv, by rw [h1, h2], h3, h4⟩
theorem opr_ldLn {p : Int × Int} (ho : o.op = .load 45 x) (hx : (svEl 2 lnE p).pred (a.eval x) w) (h : K (a.put o.dst (.agg (rowA 2 (stepF p)))) w) : o.wp Tryd.prog a w K Q :=
  opr_ldL lineEl ho hx fun v ⟨_, h1, h2⟩ => by rw [h1, show _ = stepF p from h2]; exact h
theorem opr_fldE {α : Type} {E : World → (Nat → Value) → α → Prop} [StbE E] {p : α} {n t k off m : Nat} {fs : Array Field} {f : Field} (hu : Tryd.prog.underlying t = some (.struct fs)) (hk : fs[k]? = some f) (hs : (Tryd.prog.info? f.type).map (·.size) = some (m + 1)) (hoff : f.offset = off) (hlt : off < n) (ho : o.op = .fieldAddr t x k) (hx : (svEl n E p).pred (a.eval x) w)
    (h : ∀ v b o1 F, v = .pointer (some ⟨b, o1, none⟩) → w.cell? ⟨b, o1, none⟩ = some (F off) → E w F p → K (a.put o.dst v) w) : o.wp Tryd.prog a w K Q := by
  obtain ⟨b, o1, F, hv, hc, hE⟩ := hx
  exact opr_fld hu hk hs ho hv (by rw [hoff]) (h _ b (o1 + off) F rfl (hc (by omega) off hlt) hE)
theorem opr_fldUe0 {p : Ug} (ho : o.op = .fieldAddr 59 x 0) (hx : (svEl 10 sgE p).pred (a.eval x) w) (h : ∀ v, (svStsP p.1).pred v w → K (a.put o.dst v) w) : o.wp Tryd.prog a w K Q :=
  opr_fldE Tryd.underlying59 rfl info_steps1 rfl (by decide) ho hx fun v b o1 F hv hc ⟨sv, hF, hp⟩ => h v ⟨b, o1, sv, hv, by rw [hc, hF]; rfl, hp⟩
theorem opr_fldNe0 {p : Int × Int} (ho : o.op = .fieldAddr 45 x 0) (hx : (svEl 2 lnE p).pred (a.eval x) w) (h : ∀ v, (svIp p.1).pred v w → K (a.put o.dst v) w) : o.wp Tryd.prog a w K Q :=
  opr_fldE Tryd.underlying45 rfl info_int rfl (by decide) ho hx fun v b o1 F hv hc hF => h v ⟨b, o1, hv, by rw [hc, show F = stepF p from hF]; rfl⟩
theorem opr_ldSts {l : List (Int × Int)} (ho : o.op = .load 29 x) (hx : (svStsP l).pred (a.eval x) w) (h : ∀ v, (svPairs l).pred v w → K (a.put o.dst v) w) : o.wp Tryd.prog a w K Q := by
  obtain ⟨b, o1, sv, hv, hc, hp⟩ := hx
  exact opr_ld1 Tryd.underlying29 rfl ho hv hc (h sv hp)
theorem opr_fldK0 (ho : o.op = .fieldAddr 37 x 0) (hx : a.eval x = .pointer (some ⟨g, 0, none⟩)) (h : K (a.put o.dst (.pointer (some ⟨g, 0, none⟩))) w) : o.wp Tryd.prog a w K Q := opr_fld Tryd.underlying37 rfl info_ep5 ho hx (by rfl) h
theorem opr_fldK1 (ho : o.op = .fieldAddr 37 x 1) (hx : a.eval x = .pointer (some ⟨g, 0, none⟩)) (h : K (a.put o.dst (.pointer (some ⟨g, 4, none⟩))) w) : o.wp Tryd.prog a w K Q := opr_fld Tryd.underlying37 rfl info_us1 ho hx (by rfl) h
theorem opr_fldN0 (ho : o.op = .fieldAddr 45 x 0) (hx : a.eval x = .pointer (some ⟨g, 0, none⟩)) (h : K (a.put o.dst (.pointer (some ⟨g, 0, none⟩))) w) : o.wp Tryd.prog a w K Q := opr_fld Tryd.underlying45 rfl info_int ho hx (by rfl) h
theorem opr_ldK (hr : w.rowIs g t' 5 F) (ho : o.op = .load 37 x) (hx : a.eval x = .pointer (some ⟨g, 0, none⟩)) (h : K (a.put o.dst (.agg (rowA 5 F))) w) : o.wp Tryd.prog a w K Q :=
  opr_ldm Tryd.underlying37 rfl info_book ho hx hr (by omega) (by rw [rowA_congr (g := F) fun i _ => by rw [Nat.zero_add]]; exact h)
theorem opr_ldN (hr : w.rowIs g t' 2 F) (ho : o.op = .load 45 x) (hx : a.eval x = .pointer (some ⟨g, 0, none⟩)) (h : K (a.put o.dst (.agg (rowA 2 F))) w) : o.wp Tryd.prog a w K Q :=
  opr_ldm Tryd.underlying45 rfl info_line ho hx hr (by omega) (by rw [rowA_congr (g := F) fun i _ => by rw [Nat.zero_add]]; exact h)
theorem opr_ldUs {n o0 : Nat} {v : Value} (hr : w.rowIs g t' n F) (hn : o0 < n) (hv : F o0 = v) (ho : o.op = .load 35 x) (hx : a.eval x = .pointer (some ⟨g, o0, none⟩)) (h : K (a.put o.dst v) w) : o.wp Tryd.prog a w K Q :=
  opr_ld1 Tryd.underlying35 rfl ho hx (by rw [hr.cell hn, hv]) h
theorem opr_ldEp {ep : Nat → Int} {sv : Value} (hr : w.rowIs g t' 5 (bkF ep sv)) (ho : o.op = .load 34 x) (hx : a.eval x = .pointer (some ⟨g, 0, none⟩)) (h : K (a.put o.dst (.agg (rowA 4 (epF ep)))) w) : o.wp Tryd.prog a w K Q :=
  opr_ldm Tryd.underlying34 rfl info_ep4 ho hx hr (by omega) (by rw [rowA_congr (g := epF ep) fun i hi => by rw [Nat.zero_add]; exact bkF_ep hi]; exact h)
theorem opr_idxEp {k : Nat} {n : Int} (hk : k < 4) (hn : n = (k : Int)) (ho : o.op = .indexAddr 34 x y) (hx : a.eval x = .pointer (some ⟨g, 0, none⟩)) (hy : a.eval y = .int .i64 n) (h : K (a.put o.dst (.pointer (some ⟨g, k, none⟩))) w) : o.wp Tryd.prog a w K Q := by
  subst hn
  obtain ⟨dst, op, type, pos, after, guard⟩ := o
  simp only at ho
  subst ho
  have hs : (sizeOf 3).run Tryd.prog w = .ok 1 w := by
    have hs := info_int
    cases hq : Tryd.prog.info? 3 with
    | none => simp [hq] at hs
    | some i => simp [hq] at hs; simp [sizeOf, typeInfo, hq, hs]
  refine opr_val (s := Instr.indexAt 34 (a.eval x) (a.eval y)) (v := .pointer (some ⟨g, k, none⟩)) rfl ?_ h
  rw [hx, hy]
  simp [Instr.indexAt, asIntOf, run_underlying Tryd.underlying34, hk, hs, Addr.add_mid, Instr.sureAddr]
theorem equalIn_ep (w : World) (p q : Nat → Int) : (Op.equalIn 10000 34 (.agg (rowA 4 (epF p))) (.agg (rowA 4 (epF q)))).run Tryd.prog w = .ok (epB p q) w := by
  rw [show epB p q = ((List.range 4).all fun i => p i == q i) by unfold epB; simp [List.range, List.range.loop, Bool.and_assoc]]
  exact equalIn_arr w 9998 34 3 4 .i64 Tryd.underlying34 Tryd.underlying3 info_i1 p q
theorem eqType_ep : Tryd.prog.eqGuardType Tryd.prog.depth 34 = false := by kernel_rfl
theorem opr_eqlEp {p q : Nat → Int} {t2 : TypeId} (ho : o.op = .binOp .eql 34 x y t2) (hx : a.eval x = .agg (rowA 4 (epF p))) (hy : a.eval y = .agg (rowA 4 (epF q))) (h : K (a.put o.dst (.bool (epB p q))) w) : o.wp Tryd.prog a w K Q := by
  obtain ⟨dst, op', type, pos, after, guard⟩ := o
  simp only at ho
  subst ho
  refine opr_val (s := do eqGuard .eql 34 x y (a.eval x) (a.eval y); binOp .eql 34 (a.eval x) (a.eval y)) rfl ?_ h
  rw [hx, hy, Sem.run_bind, run_eqGuard_agg _ _ _ _ _ _ _ eqType_ep]
  simp only [Result.andThen_ok]
  rw [run_eql_struct, equalIn_ep]; rfl
theorem eqType_line : Tryd.prog.eqGuardType Tryd.prog.depth 45 = false := by kernel_rfl
theorem equalIn_line (w : World) (s t : Int × Int) : (Op.equalIn 10000 45 (.agg (rowA 2 (stepF s))) (.agg (rowA 2 (stepF t)))).run Tryd.prog w = .ok (decide (s = t)) w := by
  rw [show rowA 2 (stepF s) = #[.int .i64 s.1, .int .i64 s.2] from rfl, show rowA 2 (stepF t) = #[.int .i64 t.1, .int .i64 t.2] from rfl]
  obtain ⟨s1, s2⟩ := s
  obtain ⟨t1, t2⟩ := t
  rw [run_equalIn_agg w 9999 45 _ _ (by kernel_rfl) (by kernel_rfl)]
  by_cases h1 : s1 = t1
  · by_cases h2 : s2 = t2
    · subst h1 h2; simp [go_sem]
    · subst h1; simp [go_sem, h2]
  · simp [go_sem, h1]
theorem opr_eqlLn {t2 : TypeId} {s t : Int × Int} {b : Bool} (hb : decide (s = t) = b) (ho : o.op = .binOp .eql 45 x y t2) (hx : a.eval x = .agg (rowA 2 (stepF s))) (hy : a.eval y = .agg (rowA 2 (stepF t))) (h : K (a.put o.dst (.bool b)) w) : o.wp Tryd.prog a w K Q := by
  obtain ⟨dst, op', type, pos, after, guard⟩ := o
  simp only at ho
  subst ho hb
  refine opr_val (s := do eqGuard .eql 45 x y (a.eval x) (a.eval y); binOp .eql 45 (a.eval x) (a.eval y)) rfl ?_ h
  rw [hx, hy, Sem.run_bind, run_eqGuard_agg _ _ _ _ _ _ _ eqType_line]
  simp only [Result.andThen_ok]
  rw [run_eql_struct, equalIn_line]; rfl
end
end Go.Proofs.YtilmeffmdgcblaaDoor
/- Package book's map of ways, made anew at each call, and asked; sagas' slices cloned. -/
namespace Go.Proofs.YtilmeffmdgcblaaDoor
open Go Go.RowKit
set_option maxRecDepth 8000
set_option linter.all false
theorem heap_setObj (W : World) (b : Nat) (o : Obj) : Below b W { W with heap := W.heap.setIfInBounds b o } :=
  ⟨rfl, rfl, rfl, by simp, fun k hk => by simp only [Array.getElem?_setIfInBounds_ne (show b ≠ k by omega)]⟩
theorem run_insI (W : World) {b clock : Nat} {es : Array MapEntry} {k : Int} {v : Value} (hb : W.heap[b]? = some (.map es clock)) (hf : Instr.findNow (.int .i64) (.int .i64 k) es.toList 0 = some none) :
    (Instr.mapUpdate 66 (.map (some b)) (.int .i64 k) v).run Tryd.prog W = .ok () { W with heap := W.heap.setIfInBounds b (.map (es.push { key := .int .i64 k, val := v, born := clock }) (clock + 1)) } := by
  have hk := Tryd.underlying3
  have hc : (Instr.checkKey false 10000 3 (.int .i64 k)).run Tryd.prog W = .ok () W := MapKept.run_checkKey (k := .int .i64 k) hk (by simp [MapKept.IsKey]) false 9999
  simp [Instr.mapUpdate, run_underlying Tryd.underlying66, MapKept.run_getObj_map hb, hc, MapKept.run_findKey hk hf, MapKept.run_setObj_map _ hb, Result.andThen]
section
variable {a : Act} {w : World} {o : Oper} {K : Act → World → Prop} {Q : Exit → Act → World → Prop} {x y z : Operand}
theorem opr_ins {b clock : Nat} {es : Array MapEntry} {k : Int} {v : Value} (ho : o.op = .insert 66 x y z) (hx : a.eval x = .map (some b)) (hy : a.eval y = .int .i64 k) (hz : a.eval z = v) (hb : w.heap[b]? = some (.map es clock)) (hf : Instr.findNow (.int .i64) (.int .i64 k) es.toList 0 = some none)
    (h : ∀ w', Below b w w' → w'.heap[b]? = some (.map (es.push { key := .int .i64 k, val := v, born := clock }) (clock + 1)) → K (a.put o.dst undef) w') : o.wp Tryd.prog a w K Q := by
  obtain ⟨dst, op, type, pos, after, guard⟩ := o
  simp only at ho
  subst ho
  have hlt : b < w.heap.size := (Array.getElem?_eq_some_iff.1 hb).1
  refine opr_unit (s := Instr.mapUpdate 66 (a.eval x) (a.eval y) (a.eval z)) rfl ?_ (h _ (heap_setObj w b (.map (es.push { key := .int .i64 k, val := v, born := clock }) (clock + 1))) (by simp [hlt]))
  rw [hx, hy, hz]
  exact run_insI w hb hf
theorem opr_mkMap (ho : o.op = .makeMap 66 none) (h : ∀ w', NewT w w' → w'.heap[w.heap.size]? = some (.map #[] 0) → K (a.put o.dst (.map (some w.heap.size))) w') : o.wp Tryd.prog a w K Q := by
  obtain ⟨dst, op, type, pos, after, guard⟩ := o
  simp only at ho
  subst ho
  exact opr_val (s := Instr.makeMap 66 none) (by simp [execOp]) (run_makeMap_plain w _) (h _ (NewT.alloc _ _) (World.alloc_heap_new _ _))
end
/-- A kind's way. -/
def wayF (k : Int) : Nat := if k = 1 then 34 else if k = 3 then 36 else if k = 6 then 37 else 35
def wayL : List (Int × Nat) := [(1, 34), (2, 35), (3, 36), (4, 35), (5, 35), (6, 37)]
def svWays : SV NewT := ⟨fun v w => ∃ b es c, v = .map (some b) ∧ w.heap[b]? = some (.map es c) ∧ es.toList.map (fun e => (e.key, e.val)) = wayL.map fun p => (.int .i64 p.1, .func (.func p.2) #[] #[]),
  fun _ _ _ ⟨b, es, c, h1, h2, h3⟩ hT => ⟨b, es, c, h1, (hT.out.block b (Array.getElem?_eq_some_iff.1 h2).1).trans h2, h3⟩⟩
set_option maxHeartbeats 1000000 in
theorem ways_cv (w : World) : Cv 24 #[] w svWays := by
  unfold Cv
  go_enter Tryd.func24, Tryd.ntmps24
  go_upto_region 1 with fail
  refine wp_region_lit ?_
  refine wpList_plain rfl (fun K hK => ?_)
  refine opr_mkMap rfl (fun w0 hN hb => hK _ _ ?_)
  clear hK K
  simp only [Act.put, List.setIfInBounds_toArray, List.set_cons_zero, List.set_cons_succ]
  obtain ⟨b, hbe⟩ : ∃ b, w.heap.size = b := ⟨_, rfl⟩
  rw [hbe] at hb ⊢
  have hM : NewT w w0 := hN
  clear hN
  iterate 6
    refine wpList_plain rfl (fun K hK => ?_)
    refine opr_ins rfl rfl rfl rfl hb (by simp [Instr.findNow, Instr.sameNow]) (fun w1 hB hb1 => hK _ _ ?_)
    clear hK K
    simp only [Act.put, List.setIfInBounds_toArray, List.set_cons_zero, List.set_cons_succ]
    replace hM : NewT w w1 := NewT.of (hM.out.trans (hB.mono (by omega)))
    replace hb := hb1
    clear hB hb1
  iterate 2
    refine wpList_plain rfl (fun K hK => ?_)
    refine opr_move (by first | exact .inl rfl | exact .inr rfl) (hK _ _ ?_)
    clear hK K
    simp only [Act.put, List.setIfInBounds_toArray, List.set_cons_zero, List.set_cons_succ]
  refine wpList_nil ?_
  go_simp
  go_wp2
  go_ret
  exact ⟨_, rfl, hM, b, _, _, rfl, hb, by simp [wayL, eval_func]⟩
theorem findNow_at (k : Int) : ∀ (es : List MapEntry) (l : List (Int × Nat)) (i : Nat) (f : Nat), es.map (fun e => (e.key, e.val)) = l.map (fun p => ((.int .i64 p.1 : Value), (.func (.func p.2) #[] #[] : Value))) → l.lookup k = some f → ∃ j, Instr.findNow (.int .i64) (.int .i64 k) es i = some (some (j, .func (.func f) #[] #[]))
  | [], [], i, f, _, h => by cases h
  | [], _ :: _, _, _, h, _ => by cases h
  | _ :: _, [], _, _, h, _ => by cases h
  | e :: es, p :: l, i, f, h, hl => by
    simp only [List.map_cons, List.cons.injEq, Prod.mk.injEq] at h
    obtain ⟨⟨h1, h2⟩, h3⟩ := h
    obtain ⟨p1, p2⟩ := p
    unfold Instr.findNow
    rw [h1, h2]
    simp only [Instr.sameNow, if_true]
    rw [List.lookup_cons] at hl
    by_cases e1 : k = p1
    · subst e1
      simp at hl
      subst hl
      exact ⟨i, by simp⟩
    · rw [beq_eq_false_iff_ne.2 e1] at hl ⊢
      exact findNow_at k es l (i + 1) f h3 hl
theorem way_look (k : Int) (h : 1 ≤ k ∧ k ≤ 6) : wayL.lookup k = some (wayF k) := by
  have : k = 1 ∨ k = 2 ∨ k = 3 ∨ k = 4 ∨ k = 5 ∨ k = 6 := by omega
  rcases this with rfl | rfl | rfl | rfl | rfl | rfl <;> rfl
theorem opr_lookW {a : Act} {w : World} {o : Oper} {K : Act → World → Prop} {Q : Exit → Act → World → Prop} {x y : Operand} {k : Int} {f : Nat} (hf : wayF k = f) (hk : 1 ≤ k ∧ k ≤ 6) (ho : o.op = .lookup 66 x y false) (hx : svWays.pred (a.eval x) w) (hy : a.eval y = .int .i64 k) (h : K (a.put o.dst (.func (.func f) #[] #[])) w) : o.wp Tryd.prog a w K Q := by
  subst hf
  obtain ⟨dst, op, type, pos, after, guard⟩ := o
  simp only at ho
  subst ho
  obtain ⟨b, es, c, h1, h2, h3⟩ := hx
  obtain ⟨j, hj⟩ := findNow_at k es.toList wayL 0 _ h3 (way_look k hk)
  refine opr_val (s := Instr.lookup 66 (a.eval x) (a.eval y) false) (by simp [execOp]) ?_ h
  rw [h1, hy]
  have hi := Tryd.underlying3
  have hc : (Instr.checkKey es.isEmpty 10000 3 (.int .i64 k)).run Tryd.prog w = .ok () w := MapKept.run_checkKey (k := .int .i64 k) hi (by simp [MapKept.IsKey]) _ 9999
  simp [Instr.lookup, run_underlying Tryd.underlying66, MapKept.run_getObj_map h2, hc, MapKept.run_findKey hi hj, Result.andThen]
/-- Sagas' slices cloned: the rows as they were, in a block of the call's own. -/
theorem CloneU_cv (v : Value) (fs : List (Nat → Value)) (w : World) (h : RdE 10 w v fs) (h1 : OneE 10 fs) (hl : fs.length ≤ 900000) : Cv 22 #[v] w ⟨fun u w' => OwnE 59 10 w' w.heap.size u fs, fun _ _ _ h hT => h.new hT⟩ := by
  unfold Cv
  have hh := h
  obtain ⟨A, cap, rfl, k1, k2, k3⟩ := h
  have hq : ∀ (w : World) (a : Option Addr) (n c n' c' : Nat), (binOp .eql 35 (.slice a n c) (.slice none n' c')).run Tryd.prog w = .ok (.bool a.isNone) w := fun w a n c n' c' => Lib.run_eql_slice_nil w _ _ a n c n' c' Tryd.underlying35
  cases A with
  | none =>
    have h0 : fs = [] := by
      cases fs with
      | nil => rfl
      | cons b l => obtain ⟨_, _, h, _⟩ := k3 (by simp); cases h
    subst h0
    clear k3 hh
    go_enter Tryd.func22, Tryd.ntmps22
    go_wp2
    go_ret
    exact ⟨_, rfl, NewT.refl _, ownE_nil _ _⟩
  | some a =>
    have hN := NewT.alloc w (.cells #[] 59)
    have o0 : OwnE 59 10 (w.alloc (.cells #[] 59)) w.heap.size (.slice (some ⟨w.heap.size, 0, none⟩) 0 0) [] :=
      ⟨rfl, .inr ⟨w.heap.size, 0, #[], rfl, Nat.le_refl _, World.alloc_heap_new _ _, Nat.le_refl _, by unfold maxLen; omega, rfl, rfl⟩⟩
    obtain ⟨v', w', hr, ho', hg⟩ := run_appE sagaEl o0 (hh.new hN) h1 (by simp; omega) hN.out.size 35
    have hB : Below w.heap.size w w' := hN.out.grown hg hN.out.size (fun k e => by simp [Value.ownBlock] at e; omega)
    have Ho := Lib.hid ho'
    clear k3 hh hN o0 hg ho'
    go_enter Tryd.func22, Tryd.ntmps22
    go_upto_region 3 with fail
    refine wp_region_lit ?_
    iterate 2 (refine wpList_plain rfl (fun K hK => ?_); go_simp; refine hK _ _ ?_; clear hK K)
    refine wpList_plain rfl (fun K hK => ?_)
    refine opr_append rfl rfl rfl hr (hK _ _ ?_)
    clear hK K
    refine wpList_plain rfl (fun K hK => ?_)
    refine opr_move (.inr rfl) (hK _ _ ?_)
    clear hK K
    refine wpList_nil ?_
    go_simp
    go_wp2
    go_ret
    exact ⟨_, rfl, hB, Ho.out⟩
end Go.Proofs.YtilmeffmdgcblaaDoor
/- Package saga: whose call is due; what is due; whether a record goes; the saga behind it. -/
namespace Go.Proofs.YtilmeffmdgcblaaDoor
open Go Go.RowKit
set_option maxRecDepth 8000
set_option linter.all false
attribute [local go_sem] run_zero_rec
theorem results_tt {P : Program} {fn : Func} {tmps : Array Value} {w : World} {p q : Tmp} {x y : Value} (hf : fn.results = #[.tmp p, .tmp q]) (hp : tmps.getD p undef = x) (hq : tmps.getD q undef = y) : (results fn tmps).run P w = .ok (.tuple #[x, y]) w := by
  have hp' : tmps[p]?.getD undef = x := by simpa using hp
  have hq' : tmps[q]?.getD undef = y := by simpa using hq
  simp [results, hf, hp', hq']
theorem lastT_lt {f : Nat → Bool} {i : Nat} : ∀ {n : Nat}, lastT f n = some i → i < n ∧ f i = true
  | 0, h => by cases h
  | n + 1, h => by
    unfold lastT at h
    by_cases e : f n = true
    · rw [if_pos e] at h
      cases h
      exact ⟨Nat.lt_succ_self _, e⟩
    · rw [if_neg e] at h
      have := lastT_lt h
      exact ⟨by omega, this.2⟩
theorem next_range {l : List (Int × Int)} {g : Sg} (h : nextB l g = true) : 0 ≤ nextI l g ∧ nextI l g < l.length := by
  unfold nextB at h
  unfold nextI
  by_cases e : g.ph = 1
  · rw [if_pos e] at h ⊢
    cases ht : tgtO l g with
    | none => rw [ht] at h; cases h
    | some i => have := (lastT_lt ht).1; show 0 ≤ (i : Int) ∧ (i : Int) < _; omega
  · rw [if_neg e] at h ⊢
    rw [if_pos h]
    have := (inR_iff _ _ _).1 h
    omega
/-- A record that fits tells of a step that is there. -/
theorem fits_pre {l : List (Int × Int)} {lim : Int} {g : Sg} {x : Rc} (hl : 1 ≤ l.length) (h : fitsB l lim g x = true) : (0 ≤ x.step ∧ x.step < l.length) ∧ (x.kind = 2 ∨ x.kind = 5 ∨ x.kind = 3 ∨ x.kind = 4) := by
  unfold fitsB at h
  split at h
  · rename_i hk
    unfold isDueB at h
    simp only [Bool.and_eq_true, beq_iff_eq] at h
    refine ⟨?_, by omega⟩
    rw [h.1.1.1.2]
    unfold dueX
    split
    · split
      · rename_i hb
        split
        · exact next_range hb
        · show (0 : Int) ≤ 0 ∧ (0 : Int) < _; omega
      · split <;> (show (0 : Int) ≤ 0 ∧ (0 : Int) < _; omega)
    · show (0 : Int) ≤ 0 ∧ (0 : Int) < _; omega
  · split at h
    · rename_i hk
      unfold isOutB at h
      simp only [Bool.and_eq_true, beq_iff_eq] at h
      refine ⟨?_, by omega⟩
      rw [h.1.1.2]
      exact next_range h.1.1.1.2
    · cases h
set_option maxHeartbeats 4000000 in
theorem next_cv (sv : Value) (l : List (Int × Int)) (g : Sg) (w : World) (hs : RdP w sv l) (hl : l.length ≤ 6) : Cv 79 #[.agg (rowA 10 (sgF sv g))] w (.eq (.tuple #[.int .i64 (nextI l g), .bool (nextB l g)])) := by
  unfold Cv
  have HS := Lib.hid hs
  have HL6 := Lib.hid hl
  clear hs hl
  go_enter Tryd.func79, Tryd.ntmps79
  go_upto_region 1 with fail
  have r_g1 := rowIs_box w 59 10 (sgF sv g)
  have hN : NewT w (w.alloc (.cells (rowA 10 (sgF sv g)) 59)) := NewT.alloc _ _
  change Code.wp _ _ _ _ (w.alloc (.cells (rowA 10 (sgF sv g)) 59))
  generalize (w.alloc (.cells (rowA 10 (sgF sv g)) 59)) = W0 at r_g1 hN ⊢
  obtain ⟨g1, h_g1⟩ : ∃ g_, w.heap.size = g_ := ⟨_, rfl⟩
  have HG : Hid (w.heap.size ≤ g1) := Lib.hid (by omega)
  rw [h_g1] at r_g1
  simp only [h_g1]
  have Rg1 := Lib.hid r_g1
  have HM := Lib.hid hN
  clear r_g1 hN h_g1
  go_upto_region 1 with fail
  refine wp_region_steps0 NewT [SV.eq (.pointer (some ⟨g1, 1, none⟩)), SV.eq (.int .i64 (g.ph)), SV.eq (.bool (g.ph == 1))] [([(1, none)], none), ([(4, some 0)], none), ([(5, some 1)], none)] 21 3 rfl rfl (by kernel_rfl) NewT.trans (NewT.refl _) (Nat.le_of_ble_eq_true rfl) ⟨?_, ?_, ?_, trivial⟩ ?_
  · exact fun a wx hT hF K hK => rely_wp rfl (opr_fldU1 rfl hF.1 (hK _ _ (NewT.refl _) rfl))
  · exact fun a wx hT hF K hK => rely_wp rfl (opr_ldI (hT.row Rg1.out) (by decide) rfl rfl hF.1 (hK _ _ (NewT.refl _) rfl))
  · exact fun a wx hT hF K hK => rely_wp rfl (opr_cmp (b := g.ph == 1) (.inl ⟨rfl, rfl⟩) Tryd.underlying3 rfl hF.1 rfl (hK _ _ (NewT.refl _) rfl))
  · intro w1 k1
    iterate 3 (intro u h; obtain rfl := Eq.symm (h (by simp)); clear h)
    refine relyEnd_nil rfl ?_
    refine wpList_end rfl ?_
    simp only [Act.put, List.setIfInBounds_toArray, List.set_cons_zero, List.set_cons_succ]
    go_simp
    replace Rg1 := Lib.hid (k1.row Rg1.out)
    replace HM := Lib.hid (NewT.trans _ _ _ HM.out k1)
    clear k1
    cases hb : (g.ph == 1)
    · have HE : Hid (nextI l g = (if inR g.at_ 0 ((l.length : Int) - 1) = true then g.at_ else 0) ∧ nextB l g = inR g.at_ 0 ((l.length : Int) - 1)) := Lib.hid (by
        have hb' : ¬ g.ph = 1 := by simpa using hb
        exact ⟨by unfold nextI; rw [if_neg hb'], by unfold nextB; rw [if_neg hb']⟩)
      clear hb
      go_upto_region 3 with fail
      refine wp_region_steps0 NewT [SV.eq (.pointer (some ⟨g1, 2, none⟩)), SV.eq (.int .i64 (g.at_)), SV.eq (.pointer (some ⟨g1, 0, none⟩)), SV.eq (sv), SV.eq (.int .i64 ((List.length (l) : Int))), SV.eq (.int .i64 ((l.length : Int) - 1)), SV.eq (.bool (inR g.at_ 0 ((l.length : Int) - 1))), SV.eq (.bool (!(inR g.at_ 0 ((l.length : Int) - 1))))] [([(1, none)], none), ([(11, some 0)], none), ([(1, none)], none), ([(13, some 2)], none), ([(14, some 3)], none), ([(15, some 4)], none), ([(12, some 1), (16, some 5)], none), ([(17, some 6)], none)] 21 8 rfl rfl (by kernel_rfl) NewT.trans (NewT.refl _) (Nat.le_of_ble_eq_true rfl) ⟨?_, ?_, ?_, ?_, ?_, ?_, ?_, ?_, trivial⟩ ?_
      · exact fun a wx hT hF K hK => rely_wp rfl (opr_fldU2 rfl hF.1 (hK _ _ (NewT.refl _) rfl))
      · exact fun a wx hT hF K hK => rely_wp rfl (opr_ldI (hT.row Rg1.out) (by decide) rfl rfl hF.1 (hK _ _ (NewT.refl _) rfl))
      · exact fun a wx hT hF K hK => rely_wp rfl (opr_fldU0 rfl hF.1 (hK _ _ (NewT.refl _) rfl))
      · exact fun a wx hT hF K hK => rely_wp rfl (opr_ldS (hT.row Rg1.out) (by decide) rfl rfl hF.1 (hK _ _ (NewT.refl _) rfl))
      · intro a wx hT hF K hK
        obtain ⟨f14, _⟩ := hF
        have f14 : a.tmps.getD 14 undef = sv := f14
        refine rely_wp rfl ?_
        exact opr_len_pairs rfl (by rw [eval_tmp, f14]; exact ((NewT.trans _ _ _ HM.out hT).pairs HS.out)) (hK _ _ (NewT.refl _) rfl)
      · exact fun a wx hT hF K hK => rely_wp rfl (opr_sub (r := (l.length : Int) - 1) Tryd.underlying3 (by have := HL6.out; unfold wrap64; omega) rfl hF.1 rfl (hK _ _ (NewT.refl _) rfl))
      · exact fun a wx hT hF K hK => rely_wp rfl (opr_cv (gWithin_cv g.at_ 0 ((l.length : Int) - 1) wx) rfl Tryd.func57 (by kernel_rfl) (by kernel_rfl) (evs3 hF.1 rfl hF.2.1) hK)
      · exact fun a wx hT hF K hK => rely_wp rfl (opr_not rfl hF.1 (hK _ _ (NewT.refl _) rfl))
      · intro w2 k2
        iterate 8 (intro u h; obtain rfl := Eq.symm (h (by simp)); clear h)
        refine relyEnd_nil rfl ?_
        refine wpList_end rfl ?_
        simp only [Act.put, List.setIfInBounds_toArray, List.set_cons_zero, List.set_cons_succ]
        go_simp
        replace Rg1 := Lib.hid (k2.row Rg1.out)
        replace HM := Lib.hid (NewT.trans _ _ _ HM.out k2)
        clear k2
        cases hq : inR g.at_ 0 ((l.length : Int) - 1)
        · skip
          go_wp2
          exact bodyPost_ret (results_tt rfl rfl rfl) rfl ⟨_, rfl, HM.out, by show _ = Value.tuple _; rw [HE.out.1, HE.out.2, hq]; first | done | rfl⟩
        · skip
          have HQ := Lib.hid hq
          clear hq
          go_upto_region 5 with fail
          refine wp_region_steps0 NewT [SV.eq (.pointer (some ⟨g1, 2, none⟩)), SV.eq (.int .i64 (g.at_))] [([(1, none)], none), ([(19, some 0)], none)] 21 2 rfl rfl (by kernel_rfl) NewT.trans (NewT.refl _) (Nat.le_of_ble_eq_true rfl) ⟨?_, ?_, trivial⟩ ?_
          · exact fun a wx hT hF K hK => rely_wp rfl (opr_fldU2 rfl hF.1 (hK _ _ (NewT.refl _) rfl))
          · exact fun a wx hT hF K hK => rely_wp rfl (opr_ldI (hT.row Rg1.out) (by decide) rfl rfl hF.1 (hK _ _ (NewT.refl _) rfl))
          · intro w3 k3
            iterate 2 (intro u h; obtain rfl := Eq.symm (h (by simp)); clear h)
            refine relyEnd_nil rfl ?_
            simp only [Act.put, List.setIfInBounds_toArray, List.set_cons_zero, List.set_cons_succ]
            refine wpList_plain rfl (fun K hK => ?_)
            refine opr_move (.inr rfl) (hK _ _ ?_)
            clear hK K
            simp only [Act.put, List.setIfInBounds_toArray, List.set_cons_zero, List.set_cons_succ]
            refine wpList_plain rfl (fun K hK => ?_)
            refine opr_move (.inr rfl) (hK _ _ ?_)
            clear hK K
            refine wpList_end rfl ?_
            simp only [Act.put, List.setIfInBounds_toArray, List.set_cons_zero, List.set_cons_succ]
            go_simp
            replace Rg1 := Lib.hid (k3.row Rg1.out)
            replace HM := Lib.hid (NewT.trans _ _ _ HM.out k3)
            clear k3
            go_wp2
            exact bodyPost_ret (results_tt rfl rfl rfl) rfl ⟨_, rfl, HM.out, by show _ = Value.tuple _; rw [HE.out.1, HE.out.2, HQ.out]; first | done | rfl⟩
    · have HE : Hid (nextI l g = oI (tgtO l g) ∧ nextB l g = (tgtO l g).isSome) := Lib.hid (by
        have hb' : g.ph = 1 := by simpa using hb
        exact ⟨by unfold nextI; rw [if_pos hb'], by unfold nextB; rw [if_pos hb']⟩)
      clear hb
      go_upto_region 2 with fail
      refine wp_region_steps0 NewT [SV.eq (.agg (rowA 10 (sgF sv g))), SV.eq ((.tuple #[.int .i64 (oI (tgtO l g)), .bool (tgtO l g).isSome])), SV.eq (.int .i64 (oI (tgtO l g))), SV.eq (.bool ((tgtO l g).isSome))] [([(1, none)], none), ([(7, some 0)], none), ([(8, some 1)], none), ([(8, some 1)], none)] 21 4 rfl rfl (by kernel_rfl) NewT.trans (NewT.refl _) (Nat.le_of_ble_eq_true rfl) ⟨?_, ?_, ?_, ?_, trivial⟩ ?_
      · exact fun a wx hT hF K hK => rely_wp rfl (opr_ldU (hT.row Rg1.out) rfl hF.1 (hK _ _ (NewT.refl _) rfl))
      · exact fun a wx hT hF K hK => rely_wp rfl (opr_cv (target_cv sv l g wx ((NewT.trans _ _ _ HM.out hT).pairs HS.out) HL6.out) rfl Tryd.func85 (by kernel_rfl) (by kernel_rfl) (evs1 hF.1) hK)
      · exact fun a wx hT hF K hK => rely_wp rfl (opr_ext rfl hF.1 rfl (hK _ _ (NewT.refl _) rfl))
      · exact fun a wx hT hF K hK => rely_wp rfl (opr_ext rfl hF.1 rfl (hK _ _ (NewT.refl _) rfl))
      · intro w4 k4
        iterate 4 (intro u h; obtain rfl := Eq.symm (h (by simp)); clear h)
        refine relyEnd_nil rfl ?_
        simp only [Act.put, List.setIfInBounds_toArray, List.set_cons_zero, List.set_cons_succ]
        refine wpList_plain rfl (fun K hK => ?_)
        refine opr_move (.inr rfl) (hK _ _ ?_)
        clear hK K
        simp only [Act.put, List.setIfInBounds_toArray, List.set_cons_zero, List.set_cons_succ]
        refine wpList_plain rfl (fun K hK => ?_)
        refine opr_move (.inr rfl) (hK _ _ ?_)
        clear hK K
        refine wpList_end rfl ?_
        simp only [Act.put, List.setIfInBounds_toArray, List.set_cons_zero, List.set_cons_succ]
        go_simp
        replace Rg1 := Lib.hid (k4.row Rg1.out)
        replace HM := Lib.hid (NewT.trans _ _ _ HM.out k4)
        clear k4
        go_wp2
        exact bodyPost_ret (results_tt rfl rfl rfl) rfl ⟨_, rfl, HM.out, by show _ = Value.tuple _; rw [HE.out.1, HE.out.2]; first | done | rfl⟩
set_option maxHeartbeats 4000000 in
theorem Due_cv (sv : Value) (l : List (Int × Int)) (g : Sg) (lim : Int) (w : World) (hs : RdP w sv l) (ok : OkG l g) : Cv 78 #[.agg (rowA 10 (sgF sv g)), .int .i64 lim] w (.eq (.tuple #[.agg (rowA 109 (recF (dueX l lim g) (.slice none 0 0) (.slice none 0 0))), .bool (inG lim g)])) := by
  unfold Cv
  have HS := Lib.hid hs
  have HOK := Lib.hid ok
  have HL6 : Hid (l.length ≤ 6) := Lib.hid ok.len.2
  have HTR := Lib.hid ok.tr
  clear hs ok
  go_enter Tryd.func78, Tryd.ntmps78
  go_upto_region 1 with fail
  have r_g1 := (rowIs_box w 59 10 (sgF sv g)).alloc (.cells (rowA 109 (recF zR (.slice none 0 0) (.slice none 0 0))) 32)
  have r_g2 := rowIs_box (w.alloc (.cells (rowA 10 (sgF sv g)) 59)) 32 109 (recF zR (.slice none 0 0) (.slice none 0 0))
  rw [World.size_alloc] at r_g2
  have hN : NewT w ((w.alloc (.cells (rowA 10 (sgF sv g)) 59)).alloc (.cells (rowA 109 (recF zR (.slice none 0 0) (.slice none 0 0))) 32)) := (NewT.trans _ _ _ (NewT.alloc _ _) (NewT.alloc _ _))
  change Code.wp _ _ _ _ ((w.alloc (.cells (rowA 10 (sgF sv g)) 59)).alloc (.cells (rowA 109 (recF zR (.slice none 0 0) (.slice none 0 0))) 32))
  generalize ((w.alloc (.cells (rowA 10 (sgF sv g)) 59)).alloc (.cells (rowA 109 (recF zR (.slice none 0 0) (.slice none 0 0))) 32)) = W0 at r_g1 r_g2 hN ⊢
  obtain ⟨g1, h_g1⟩ : ∃ g_, w.heap.size = g_ := ⟨_, rfl⟩
  obtain ⟨g2, h_g2⟩ : ∃ g_, w.heap.size + 1 = g_ := ⟨_, rfl⟩
  have HG : Hid (w.heap.size ≤ g1 ∧ g1 < g2) := Lib.hid (by omega)
  rw [h_g1] at r_g1
  rw [h_g2] at r_g2
  try rw [h_g2]
  simp only [h_g1]
  have Rg1 := Lib.hid r_g1
  have Rg2 := Lib.hid r_g2
  have HM := Lib.hid hN
  clear r_g1 r_g2 hN h_g1 h_g2
  go_upto_region 1 with fail
  obtain ⟨q1_1, Q1_1⟩ : ∃ bq_, (((!(inR lim 1 9)) || g.wt) || (overB g.ph)) = bq_ := ⟨_, rfl⟩
  refine wp_region_steps0 NewT [SV.eq (.int .i64 (lim)), SV.eq (.bool (inR lim 1 9)), SV.eq (.bool (!(inR lim 1 9))), SV.eq (.bool (!(inR lim 1 9))), svIf ((!(!(inR lim 1 9)))) (SV.eq (.pointer (some ⟨g1, 4, none⟩))), svIf ((!(!(inR lim 1 9)))) (SV.eq (.bool (g.wt))), SV.eq (.bool ((!(inR lim 1 9)) || g.wt)), SV.eq (.bool ((!(inR lim 1 9)) || g.wt)), svIf ((!((!(inR lim 1 9)) || g.wt))) (SV.eq (.agg (rowA 10 (sgF sv g)))), svIf ((!((!(inR lim 1 9)) || g.wt))) (SV.eq (.bool (overB g.ph))), SV.eq (.bool (q1_1))] [([(1, none)], none), ([(9, some 0)], none), ([(10, some 1)], none), ([(11, some 2)], none), ([(2, none), (12, some 3)], some (12, false)), ([(13, some 4), (12, some 3)], some (12, false)), ([(12, some 3), (14, some 5)], none), ([(15, some 6)], none), ([(2, none), (16, some 7)], some (16, false)), ([(17, some 8), (16, some 7)], some (16, false)), ([(16, some 7), (18, some 9)], none)] 50 11 rfl rfl (by kernel_rfl) NewT.trans (NewT.refl _) (Nat.le_of_ble_eq_true rfl) ⟨?_, ?_, ?_, ?_, ?_, ?_, ?_, ?_, ?_, ?_, ?_, trivial⟩ ?_
  · exact fun a wx hT hF K hK => rely_wp rfl (opr_move (.inl rfl) (hK _ _ (NewT.refl _) hF.1))
  · exact fun a wx hT hF K hK => rely_wp rfl (opr_cv (gLimit_cv lim wx) rfl Tryd.func58 (by kernel_rfl) (by kernel_rfl) (evs1 hF.1) hK)
  · exact fun a wx hT hF K hK => rely_wp rfl (opr_not rfl hF.1 (hK _ _ (NewT.refl _) rfl))
  · exact fun a wx hT hF K hK => rely_wp rfl (opr_move (.inl rfl) (hK _ _ (NewT.refl _) hF.1))
  · exact fun a wx hT hF K hK => rely_if (rely_gf hF.2.1) (NewT.refl _) hK fun hE hK => opr_fldU4 rfl hF.1 (hK _ _ (NewT.refl _) rfl)
  · exact fun a wx hT hF K hK => rely_if (rely_gf hF.2.1) (NewT.refl _) hK fun hE hK => opr_ldQ (hT.row Rg1.out) (by decide) rfl rfl (hF.1 hE) (hK _ _ (NewT.refl _) rfl)
  · exact fun a wx hT hF K hK => rely_wp rfl (opr_pick_b rfl hF.1 (fun hb => hK _ _ (NewT.refl _) (pk_or1 hb)) (fun hb => hK _ _ (NewT.refl _) (pk_or0 (hF.2.1 (bnot hb)) hb)))
  · exact fun a wx hT hF K hK => rely_wp rfl (opr_move (.inl rfl) (hK _ _ (NewT.refl _) hF.1))
  · exact fun a wx hT hF K hK => rely_if (rely_gf hF.2.1) (NewT.refl _) hK fun hE hK => opr_ldU (hT.row Rg1.out) rfl hF.1 (hK _ _ (NewT.refl _) rfl)
  · exact fun a wx hT hF K hK => rely_if (rely_gf hF.2.1) (NewT.refl _) hK fun hE hK => opr_cv (Over_cv sv g wx) rfl Tryd.func83 (by kernel_rfl) (by kernel_rfl) (evs1 (hF.1 hE)) hK
  · exact fun a wx hT hF K hK => rely_wp rfl (opr_pick_b rfl hF.1 (fun hb => hK _ _ (NewT.refl _) (pn_or1 Q1_1 hb)) (fun hb => hK _ _ (NewT.refl _) (pn_or0 Q1_1 (hF.2.1 (bnot hb)) hb)))
  · intro w1 k1
    iterate 4 (intro u h; obtain rfl := Eq.symm (h (by simp)); clear h)
    iterate 2 (intro _ _)
    iterate 2 (intro u h; obtain rfl := Eq.symm (h (by simp)); clear h)
    iterate 2 (intro _ _)
    intro u h; obtain rfl := Eq.symm (h (by simp)); clear h
    subst Q1_1
    refine relyEnd_nil rfl ?_
    refine wpList_end rfl ?_
    simp only [Act.put, List.setIfInBounds_toArray, List.set_cons_zero, List.set_cons_succ]
    go_simp
    replace Rg1 := Lib.hid (k1.row Rg1.out)
    replace Rg2 := Lib.hid (k1.row Rg2.out)
    replace HM := Lib.hid (NewT.trans _ _ _ HM.out k1)
    clear k1
    cases hb : ((((!(inR lim 1 9)) || g.wt) || (overB g.ph)))
    · have HI : Hid (inG lim g = true) := Lib.hid (by unfold inG; rw [hb]; rfl)
      clear hb
      go_upto_region 3 with fail
      refine wp_region_steps0 NewT [SV.eq (.pointer (some ⟨g1, 1, none⟩)), SV.eq (.int .i64 (g.ph)), SV.eq (.bool (g.ph == 1)), SV.eq (.bool (g.ph == 1))] [([(2, none)], none), ([(21, some 0)], none), ([(22, some 1)], none), ([(23, some 2)], none)] 50 4 rfl rfl (by kernel_rfl) NewT.trans (NewT.refl _) (Nat.le_of_ble_eq_true rfl) ⟨?_, ?_, ?_, ?_, trivial⟩ ?_
      · exact fun a wx hT hF K hK => rely_wp rfl (opr_fldU1 rfl hF.1 (hK _ _ (NewT.refl _) rfl))
      · exact fun a wx hT hF K hK => rely_wp rfl (opr_ldI (hT.row Rg1.out) (by decide) rfl rfl hF.1 (hK _ _ (NewT.refl _) rfl))
      · exact fun a wx hT hF K hK => rely_wp rfl (opr_cmp (b := g.ph == 1) (.inl ⟨rfl, rfl⟩) Tryd.underlying3 rfl hF.1 rfl (hK _ _ (NewT.refl _) rfl))
      · exact fun a wx hT hF K hK => rely_wp rfl (opr_move (.inr rfl) (hK _ _ (NewT.refl _) hF.1))
      · intro w2 k2
        iterate 4 (intro u h; obtain rfl := Eq.symm (h (by simp)); clear h)
        refine relyEnd_nil rfl ?_
        refine wpList_end rfl ?_
        simp only [Act.put, List.setIfInBounds_toArray, List.set_cons_zero, List.set_cons_succ]
        go_simp
        replace Rg1 := Lib.hid (k2.row Rg1.out)
        replace Rg2 := Lib.hid (k2.row Rg2.out)
        replace HM := Lib.hid (NewT.trans _ _ _ HM.out k2)
        clear k2
        go_upto_region 4 with fail
        refine wp_region_steps0 NewT [SV.eq (.agg (rowA 10 (sgF sv g))), SV.eq ((.tuple #[.int .i64 (nextI l g), .bool (nextB l g)])), SV.eq ((.tuple #[.int .i64 (nextI l g), .bool (nextB l g)])), SV.eq (.int .i64 (nextI l g)), SV.eq (.bool (nextB l g))] [([(2, none)], none), ([(25, some 0)], none), ([(26, some 1)], none), ([(24, some 2)], none), ([(24, some 2)], none)] 50 5 rfl rfl (by kernel_rfl) NewT.trans (NewT.refl _) (Nat.le_of_ble_eq_true rfl) ⟨?_, ?_, ?_, ?_, ?_, trivial⟩ ?_
        · exact fun a wx hT hF K hK => rely_wp rfl (opr_ldU (hT.row Rg1.out) rfl hF.1 (hK _ _ (NewT.refl _) rfl))
        · exact fun a wx hT hF K hK => rely_wp rfl (opr_cv (next_cv sv l g wx ((NewT.trans _ _ _ HM.out hT).pairs HS.out) HL6.out) rfl Tryd.func79 (by kernel_rfl) (by kernel_rfl) (evs1 hF.1) hK)
        · exact fun a wx hT hF K hK => rely_wp rfl (opr_move (.inl rfl) (hK _ _ (NewT.refl _) hF.1))
        · exact fun a wx hT hF K hK => rely_wp rfl (opr_ext rfl hF.1 rfl (hK _ _ (NewT.refl _) rfl))
        · exact fun a wx hT hF K hK => rely_wp rfl (opr_ext rfl hF.1 rfl (hK _ _ (NewT.refl _) rfl))
        · intro w3 k3
          iterate 5 (intro u h; obtain rfl := Eq.symm (h (by simp)); clear h)
          refine relyEnd_nil rfl ?_
          simp only [Act.put, List.setIfInBounds_toArray, List.set_cons_zero, List.set_cons_succ]
          refine wpList_plain rfl (fun K hK => ?_)
          refine opr_move (.inr rfl) (hK _ _ ?_)
          clear hK K
          simp only [Act.put, List.setIfInBounds_toArray, List.set_cons_zero, List.set_cons_succ]
          refine wpList_plain rfl (fun K hK => ?_)
          refine opr_move (.inr rfl) (hK _ _ ?_)
          clear hK K
          refine wpList_end rfl ?_
          simp only [Act.put, List.setIfInBounds_toArray, List.set_cons_zero, List.set_cons_succ]
          go_simp
          replace Rg1 := Lib.hid (k3.row Rg1.out)
          replace Rg2 := Lib.hid (k3.row Rg2.out)
          replace HM := Lib.hid (NewT.trans _ _ _ HM.out k3)
          clear k3
          go_upto_region 5 with fail
          obtain ⟨q1_5, Q1_5⟩ : ∃ bq_, ((nextB l g) && (decide (g.tr < lim))) = bq_ := ⟨_, rfl⟩
          refine wp_region_steps0 NewT [SV.eq (.bool (nextB l g)), SV.eq (.bool (nextB l g)), svIf (nextB l g) (SV.eq (.pointer (some ⟨g1, 3, none⟩))), svIf (nextB l g) (SV.eq (.int .i64 (g.tr))), svIf (nextB l g) (SV.eq (.int .i64 (lim))), svIf (nextB l g) (SV.eq (.bool (decide (g.tr < lim)))), SV.eq (.bool (q1_5)), SV.eq (.bool (q1_5))] [([(8, none)], none), ([(30, some 0)], none), ([(2, none), (31, some 1)], some (31, true)), ([(32, some 2), (31, some 1)], some (31, true)), ([(1, none), (31, some 1)], some (31, true)), ([(33, some 3), (34, some 4), (31, some 1)], some (31, true)), ([(31, some 1), (35, some 5)], none), ([(36, some 6)], none)] 50 8 rfl rfl (by kernel_rfl) NewT.trans (NewT.refl _) (Nat.le_of_ble_eq_true rfl) ⟨?_, ?_, ?_, ?_, ?_, ?_, ?_, ?_, trivial⟩ ?_
          · exact fun a wx hT hF K hK => rely_wp rfl (opr_move (.inl rfl) (hK _ _ (NewT.refl _) hF.1))
          · exact fun a wx hT hF K hK => rely_wp rfl (opr_move (.inl rfl) (hK _ _ (NewT.refl _) hF.1))
          · exact fun a wx hT hF K hK => rely_if (rely_gt hF.2.1) (NewT.refl _) hK fun hE hK => opr_fldU3 rfl hF.1 (hK _ _ (NewT.refl _) rfl)
          · exact fun a wx hT hF K hK => rely_if (rely_gt hF.2.1) (NewT.refl _) hK fun hE hK => opr_ldI (hT.row Rg1.out) (by decide) rfl rfl (hF.1 hE) (hK _ _ (NewT.refl _) rfl)
          · exact fun a wx hT hF K hK => rely_if (rely_gt hF.2.1) (NewT.refl _) hK fun hE hK => opr_move (.inl rfl) (hK _ _ (NewT.refl _) hF.1)
          · exact fun a wx hT hF K hK => rely_if (rely_gt hF.2.2.1) (NewT.refl _) hK fun hE hK => opr_cmp (b := decide (g.tr < lim)) (.inr (.inr (.inr (.inl ⟨rfl, rfl⟩)))) Tryd.underlying3 rfl (hF.1 hE) (hF.2.1 hE) (hK _ _ (NewT.refl _) rfl)
          · exact fun a wx hT hF K hK => rely_wp rfl (opr_pick_b rfl hF.1 (fun hb => hK _ _ (NewT.refl _) (pn_and1 Q1_5 (hF.2.1 hb) hb)) (fun hb => hK _ _ (NewT.refl _) (pn_and0 Q1_5 hb)))
          · exact fun a wx hT hF K hK => rely_wp rfl (opr_move (.inr rfl) (hK _ _ (NewT.refl _) hF.1))
          · intro w4 k4
            iterate 2 (intro u h; obtain rfl := Eq.symm (h (by simp)); clear h)
            iterate 4 (intro _ _)
            iterate 2 (intro u h; obtain rfl := Eq.symm (h (by simp)); clear h)
            subst Q1_5
            refine relyEnd_nil rfl ?_
            refine wpList_end rfl ?_
            simp only [Act.put, List.setIfInBounds_toArray, List.set_cons_zero, List.set_cons_succ]
            go_simp
            replace Rg1 := Lib.hid (k4.row Rg1.out)
            replace Rg2 := Lib.hid (k4.row Rg2.out)
            replace HM := Lib.hid (NewT.trans _ _ _ HM.out k4)
            clear k4
            cases hq : (nextB l g && decide (g.tr < lim))
            · skip
              cases hn : nextB l g
              · cases hp : (g.ph == 1)
                · have HE : Hid (dueX l lim g = clR 2 ∧ inG lim g = true) := Lib.hid ⟨by unfold dueX; rw [HI.out, if_pos rfl, hn, if_neg (by simp), if_neg (by simpa using hp)], HI.out⟩
                  clear hq hn hp
                  go_upto_region 11 with fail
                  refine wp_region_steps0 NewT [SV.eq ((.agg (rowA 109 (recF (clR 2) (.slice none 0 0) (.slice none 0 0)))))] [([], none)] 50 1 rfl rfl (by kernel_rfl) NewT.trans (NewT.refl _) (Nat.le_of_ble_eq_true rfl) ⟨?_, trivial⟩ ?_
                  · exact fun a wx hT hF K hK => rely_wp rfl (opr_cv (gClosed_cv 2 wx) rfl Tryd.func84 (by kernel_rfl) (by kernel_rfl) (evs1 rfl) hK)
                  · intro w5 k5
                    intro u h; obtain rfl := Eq.symm (h (by simp)); clear h
                    refine relyEnd_nil rfl ?_
                    simp only [Act.put, List.setIfInBounds_toArray, List.set_cons_zero, List.set_cons_succ]
                    refine wpList_plain rfl (fun K hK => ?_)
                    refine opr_putm (g := g2) (o0 := 0) (m := 109) (f := recF (clR 2) (.slice none 0 0) (.slice none 0 0)) (F := recF (clR 2) (.slice none 0 0) (.slice none 0 0)) rfl rfl rfl (k5.row Rg2.out) (by decide) info_rec (recF_one _ _ _ rfl rfl) (put_allN _ _ _) ?_
                    intro W5 hR5 rr5
                    refine hK _ _ ?_
                    clear hK K
                    simp only [Act.put, List.setIfInBounds_toArray, List.set_cons_zero, List.set_cons_succ]
                    refine wpList_plain rfl (fun K hK => ?_)
                    refine opr_move (.inr rfl) (hK _ _ ?_)
                    clear hK K
                    refine wpList_end rfl ?_
                    simp only [Act.put, List.setIfInBounds_toArray, List.set_cons_zero, List.set_cons_succ]
                    go_simp
                    replace Rg2 := Lib.hid rr5
                    replace Rg1 := Lib.hid (hR5.row (by have h_0 := HG.out; omega) (k5.row Rg1.out))
                    replace HM := Lib.hid (NewT.rt (NewT.trans _ _ _ HM.out k5) hR5 (by have h_0 := HG.out; omega))
                    clear k5 hR5 rr5
                    go_wp2
                    exact bodyPost_ret (results_rt rfl rfl rfl Rg2.out Tryd.underlying32 rfl info_rec) rfl ⟨_, rfl, HM.out, by show _ = Value.tuple _; rw [HE.out.1, HE.out.2]; first | done | rfl⟩
                · have HE : Hid (dueX l lim g = clR 3 ∧ inG lim g = true) := Lib.hid ⟨by unfold dueX; rw [HI.out, if_pos rfl, hn, if_neg (by simp), if_pos (by simpa using hp)], HI.out⟩
                  clear hq hn hp
                  go_upto_region 10 with fail
                  refine wp_region_steps0 NewT [SV.eq ((.agg (rowA 109 (recF (clR 3) (.slice none 0 0) (.slice none 0 0)))))] [([], none)] 50 1 rfl rfl (by kernel_rfl) NewT.trans (NewT.refl _) (Nat.le_of_ble_eq_true rfl) ⟨?_, trivial⟩ ?_
                  · exact fun a wx hT hF K hK => rely_wp rfl (opr_cv (gClosed_cv 3 wx) rfl Tryd.func84 (by kernel_rfl) (by kernel_rfl) (evs1 rfl) hK)
                  · intro w6 k6
                    intro u h; obtain rfl := Eq.symm (h (by simp)); clear h
                    refine relyEnd_nil rfl ?_
                    simp only [Act.put, List.setIfInBounds_toArray, List.set_cons_zero, List.set_cons_succ]
                    refine wpList_plain rfl (fun K hK => ?_)
                    refine opr_putm (g := g2) (o0 := 0) (m := 109) (f := recF (clR 3) (.slice none 0 0) (.slice none 0 0)) (F := recF (clR 3) (.slice none 0 0) (.slice none 0 0)) rfl rfl rfl (k6.row Rg2.out) (by decide) info_rec (recF_one _ _ _ rfl rfl) (put_allN _ _ _) ?_
                    intro W6 hR6 rr6
                    refine hK _ _ ?_
                    clear hK K
                    simp only [Act.put, List.setIfInBounds_toArray, List.set_cons_zero, List.set_cons_succ]
                    refine wpList_plain rfl (fun K hK => ?_)
                    refine opr_move (.inr rfl) (hK _ _ ?_)
                    clear hK K
                    refine wpList_end rfl ?_
                    simp only [Act.put, List.setIfInBounds_toArray, List.set_cons_zero, List.set_cons_succ]
                    go_simp
                    replace Rg2 := Lib.hid rr6
                    replace Rg1 := Lib.hid (hR6.row (by have h_0 := HG.out; omega) (k6.row Rg1.out))
                    replace HM := Lib.hid (NewT.rt (NewT.trans _ _ _ HM.out k6) hR6 (by have h_0 := HG.out; omega))
                    clear k6 hR6 rr6
                    go_wp2
                    exact bodyPost_ret (results_rt rfl rfl rfl Rg2.out Tryd.underlying32 rfl info_rec) rfl ⟨_, rfl, HM.out, by show _ = Value.tuple _; rw [HE.out.1, HE.out.2]; first | done | rfl⟩
              · have HE : Hid (dueX l lim g = clR 4 ∧ inG lim g = true) := Lib.hid ⟨by unfold dueX; rw [HI.out, if_pos rfl, hn, if_pos rfl, if_neg (by rw [hn, Bool.true_and] at hq; simpa using hq)], HI.out⟩
                clear hq hn
                go_upto_region 8 with fail
                refine wp_region_steps0 NewT [SV.eq ((.agg (rowA 109 (recF (clR 4) (.slice none 0 0) (.slice none 0 0)))))] [([], none)] 50 1 rfl rfl (by kernel_rfl) NewT.trans (NewT.refl _) (Nat.le_of_ble_eq_true rfl) ⟨?_, trivial⟩ ?_
                · exact fun a wx hT hF K hK => rely_wp rfl (opr_cv (gClosed_cv 4 wx) rfl Tryd.func84 (by kernel_rfl) (by kernel_rfl) (evs1 rfl) hK)
                · intro w7 k7
                  intro u h; obtain rfl := Eq.symm (h (by simp)); clear h
                  refine relyEnd_nil rfl ?_
                  simp only [Act.put, List.setIfInBounds_toArray, List.set_cons_zero, List.set_cons_succ]
                  refine wpList_plain rfl (fun K hK => ?_)
                  refine opr_putm (g := g2) (o0 := 0) (m := 109) (f := recF (clR 4) (.slice none 0 0) (.slice none 0 0)) (F := recF (clR 4) (.slice none 0 0) (.slice none 0 0)) rfl rfl rfl (k7.row Rg2.out) (by decide) info_rec (recF_one _ _ _ rfl rfl) (put_allN _ _ _) ?_
                  intro W7 hR7 rr7
                  refine hK _ _ ?_
                  clear hK K
                  simp only [Act.put, List.setIfInBounds_toArray, List.set_cons_zero, List.set_cons_succ]
                  refine wpList_plain rfl (fun K hK => ?_)
                  refine opr_move (.inr rfl) (hK _ _ ?_)
                  clear hK K
                  refine wpList_end rfl ?_
                  simp only [Act.put, List.setIfInBounds_toArray, List.set_cons_zero, List.set_cons_succ]
                  go_simp
                  replace Rg2 := Lib.hid rr7
                  replace Rg1 := Lib.hid (hR7.row (by have h_0 := HG.out; omega) (k7.row Rg1.out))
                  replace HM := Lib.hid (NewT.rt (NewT.trans _ _ _ HM.out k7) hR7 (by have h_0 := HG.out; omega))
                  clear k7 hR7 rr7
                  go_wp2
                  exact bodyPost_ret (results_rt rfl rfl rfl Rg2.out Tryd.underlying32 rfl info_rec) rfl ⟨_, rfl, HM.out, by show _ = Value.tuple _; rw [HE.out.1, HE.out.2]; first | done | rfl⟩
            · have HE : Hid (dueX l lim g = { zR with kind := 2, step := nextI l g, tr := g.tr + 1, back := g.ph == 1 } ∧ inG lim g = true) := Lib.hid ⟨by
                rw [Bool.and_eq_true] at hq
                unfold dueX
                rw [HI.out, if_pos rfl, hq.1, if_pos rfl, if_pos (by simpa using hq.2)], HI.out⟩
              clear hq
              go_upto_region 6 with fail
              refine wp_region_steps0 NewT [SV.eq (.int .i64 (nextI l g)), SV.eq (.pointer (some ⟨g1, 3, none⟩)), SV.eq (.int .i64 (g.tr)), SV.eq (.int .i64 (g.tr + 1)), SV.eq (.bool (g.ph == 1)), SV.eq ((.agg (rowA 109 (recF { zR with kind := 2, step := nextI l g, tr := g.tr + 1, back := g.ph == 1 } (.slice none 0 0) (.slice none 0 0)))))] [([(7, none)], none), ([(2, none)], none), ([(38, some 1)], none), ([(39, some 2)], none), ([(6, none)], none), ([(37, some 0), (40, some 3), (41, some 4)], none)] 50 6 rfl rfl (by kernel_rfl) NewT.trans (NewT.refl _) (Nat.le_of_ble_eq_true rfl) ⟨?_, ?_, ?_, ?_, ?_, ?_, trivial⟩ ?_
              · exact fun a wx hT hF K hK => rely_wp rfl (opr_move (.inl rfl) (hK _ _ (NewT.refl _) hF.1))
              · exact fun a wx hT hF K hK => rely_wp rfl (opr_fldU3 rfl hF.1 (hK _ _ (NewT.refl _) rfl))
              · exact fun a wx hT hF K hK => rely_wp rfl (opr_ldI (hT.row Rg1.out) (by decide) rfl rfl hF.1 (hK _ _ (NewT.refl _) rfl))
              · exact fun a wx hT hF K hK => rely_wp rfl (opr_add (r := g.tr + 1) Tryd.underlying3 (by have := HTR.out; unfold wrap64; omega) rfl hF.1 rfl (hK _ _ (NewT.refl _) rfl))
              · exact fun a wx hT hF K hK => rely_wp rfl (opr_move (.inl rfl) (hK _ _ (NewT.refl _) hF.1))
              · intro a wx hT hF K hK
                obtain ⟨f37, f40, f41, _⟩ := hF
                have f37 : a.tmps.getD 37 undef = .int .i64 (nextI l g) := f37
                have f40 : a.tmps.getD 40 undef = .int .i64 (g.tr + 1) := f40
                have f41 : a.tmps.getD 41 undef = .bool (g.ph == 1) := f41
                refine rely_wp rfl ?_
                exact opr_build (pv := #[(0, .int .i64 2), (3, .int .i64 (nextI l g)), (4, .int .i64 (g.tr + 1)), (5, .bool (g.ph == 1))]) rfl (by simp only [List.map_toArray, List.map_cons, List.map_nil, eval_tmp, eval_const, f37, f40, f41]) (build_intent (nextI l g) (g.tr + 1) (g.ph == 1) wx) (hK _ _ (NewT.refl _) rfl)
              · intro w8 k8
                iterate 6 (intro u h; obtain rfl := Eq.symm (h (by simp)); clear h)
                refine relyEnd_nil rfl ?_
                simp only [Act.put, List.setIfInBounds_toArray, List.set_cons_zero, List.set_cons_succ]
                refine wpList_plain rfl (fun K hK => ?_)
                refine opr_putm (g := g2) (o0 := 0) (m := 109) (f := recF { zR with kind := 2, step := nextI l g, tr := g.tr + 1, back := g.ph == 1 } (.slice none 0 0) (.slice none 0 0)) (F := recF { zR with kind := 2, step := nextI l g, tr := g.tr + 1, back := g.ph == 1 } (.slice none 0 0) (.slice none 0 0)) rfl rfl rfl (k8.row Rg2.out) (by decide) info_rec (recF_one _ _ _ rfl rfl) (put_allN _ _ _) ?_
                intro W8 hR8 rr8
                refine hK _ _ ?_
                clear hK K
                simp only [Act.put, List.setIfInBounds_toArray, List.set_cons_zero, List.set_cons_succ]
                refine wpList_plain rfl (fun K hK => ?_)
                refine opr_move (.inr rfl) (hK _ _ ?_)
                clear hK K
                refine wpList_end rfl ?_
                simp only [Act.put, List.setIfInBounds_toArray, List.set_cons_zero, List.set_cons_succ]
                go_simp
                replace Rg2 := Lib.hid rr8
                replace Rg1 := Lib.hid (hR8.row (by have h_0 := HG.out; omega) (k8.row Rg1.out))
                replace HM := Lib.hid (NewT.rt (NewT.trans _ _ _ HM.out k8) hR8 (by have h_0 := HG.out; omega))
                clear k8 hR8 rr8
                go_wp2
                exact bodyPost_ret (results_rt rfl rfl rfl Rg2.out Tryd.underlying32 rfl info_rec) rfl ⟨_, rfl, HM.out, by show _ = Value.tuple _; rw [HE.out.1, HE.out.2]; first | done | rfl⟩
    · have HE : Hid (dueX l lim g = zR ∧ inG lim g = false) := Lib.hid (by
        have hI : inG lim g = false := by unfold inG; rw [hb]; rfl
        exact ⟨by unfold dueX; rw [hI, if_neg (by simp)], hI⟩)
      clear hb
      go_upto_region 2 with fail
      refine wp_region_steps0 NewT [SV.eq ((.agg (rowA 109 (recF zR (.slice none 0 0) (.slice none 0 0)))))] [([], none)] 50 1 rfl rfl (by kernel_rfl) NewT.trans (NewT.refl _) (Nat.le_of_ble_eq_true rfl) ⟨?_, trivial⟩ ?_
      · exact fun a wx hT hF K hK => rely_wp rfl (opr_build (pv := #[]) rfl (by simp) (build_rec0 wx) (hK _ _ (NewT.refl _) rfl))
      · intro w9 k9
        intro u h; obtain rfl := Eq.symm (h (by simp)); clear h
        refine relyEnd_nil rfl ?_
        simp only [Act.put, List.setIfInBounds_toArray, List.set_cons_zero, List.set_cons_succ]
        refine wpList_plain rfl (fun K hK => ?_)
        refine opr_putm (g := g2) (o0 := 0) (m := 109) (f := recF zR (.slice none 0 0) (.slice none 0 0)) (F := recF zR (.slice none 0 0) (.slice none 0 0)) rfl rfl rfl (k9.row Rg2.out) (by decide) info_rec (recF_one _ _ _ rfl rfl) (put_allN _ _ _) ?_
        intro W9 hR9 rr9
        refine hK _ _ ?_
        clear hK K
        simp only [Act.put, List.setIfInBounds_toArray, List.set_cons_zero, List.set_cons_succ]
        refine wpList_plain rfl (fun K hK => ?_)
        refine opr_move (.inr rfl) (hK _ _ ?_)
        clear hK K
        refine wpList_end rfl ?_
        simp only [Act.put, List.setIfInBounds_toArray, List.set_cons_zero, List.set_cons_succ]
        go_simp
        replace Rg2 := Lib.hid rr9
        replace Rg1 := Lib.hid (hR9.row (by have h_0 := HG.out; omega) (k9.row Rg1.out))
        replace HM := Lib.hid (NewT.rt (NewT.trans _ _ _ HM.out k9) hR9 (by have h_0 := HG.out; omega))
        clear k9 hR9 rr9
        go_wp2
        exact bodyPost_ret (results_rt rfl rfl rfl Rg2.out Tryd.underlying32 rfl info_rec) rfl ⟨_, rfl, HM.out, by show _ = Value.tuple _; rw [HE.out.1, HE.out.2]; first | done | rfl⟩
set_option maxHeartbeats 4000000 in
theorem isDue_cv (sv : Value) (l : List (Int × Int)) (g : Sg) (x : Rc) (v : Value) (lim : Int) (w : World) (hs : RdP w sv l) (hx : RecV w v x) (ok : OkG l g) : Cv 65 #[.agg (rowA 10 (sgF sv g)), v, .int .i64 lim] w (.eq (.bool (isDueB l lim g x))) := by
  obtain ⟨su, dv, rfl, hsx, hdx⟩ := hx
  have HX : Hid (RecV w (.agg (rowA 109 (recF x su dv))) x) := Lib.hid ⟨su, dv, rfl, hsx, hdx⟩
  have HSX := Lib.hid hsx
  have HD := Lib.hid hdx
  clear hsx hdx
  unfold Cv
  have HS := Lib.hid hs
  have HOK := Lib.hid ok
  have HL6 : Hid (l.length ≤ 6) := Lib.hid ok.len.2
  have HTR := Lib.hid ok.tr
  clear hs ok
  go_enter Tryd.func65, Tryd.ntmps65
  go_upto_region 1 with fail
  have r_g1 := (rowIs_box w 59 10 (sgF sv g)).alloc (.cells (rowA 109 (recF x su dv)) 32)
  have r_g2 := rowIs_box (w.alloc (.cells (rowA 10 (sgF sv g)) 59)) 32 109 (recF x su dv)
  rw [World.size_alloc] at r_g2
  have hN : NewT w ((w.alloc (.cells (rowA 10 (sgF sv g)) 59)).alloc (.cells (rowA 109 (recF x su dv)) 32)) := (NewT.trans _ _ _ (NewT.alloc _ _) (NewT.alloc _ _))
  change Code.wp _ _ _ _ ((w.alloc (.cells (rowA 10 (sgF sv g)) 59)).alloc (.cells (rowA 109 (recF x su dv)) 32))
  generalize ((w.alloc (.cells (rowA 10 (sgF sv g)) 59)).alloc (.cells (rowA 109 (recF x su dv)) 32)) = W0 at r_g1 r_g2 hN ⊢
  obtain ⟨g1, h_g1⟩ : ∃ g_, w.heap.size = g_ := ⟨_, rfl⟩
  obtain ⟨g2, h_g2⟩ : ∃ g_, w.heap.size + 1 = g_ := ⟨_, rfl⟩
  have HG : Hid (w.heap.size ≤ g1 ∧ g1 < g2) := Lib.hid (by omega)
  rw [h_g1] at r_g1
  rw [h_g2] at r_g2
  try rw [h_g2]
  simp only [h_g1]
  have Rg1 := Lib.hid r_g1
  have Rg2 := Lib.hid r_g2
  have HM := Lib.hid hN
  clear r_g1 r_g2 hN h_g1 h_g2
  go_upto_region 1 with fail
  refine wp_region_steps0 NewT [SV.eq (.agg (rowA 10 (sgF sv g))), SV.eq (.int .i64 (lim)), SV.eq ((.tuple #[.agg (rowA 109 (recF (dueX l lim g) (.slice none 0 0) (.slice none 0 0))), .bool (inG lim g)])), SV.eq ((.tuple #[.agg (rowA 109 (recF (dueX l lim g) (.slice none 0 0) (.slice none 0 0))), .bool (inG lim g)])), SV.eq ((.agg (rowA 109 (recF (dueX l lim g) (.slice none 0 0) (.slice none 0 0))))), SV.eq (.bool (inG lim g))] [([(3, none)], none), ([(2, none)], none), ([(10, some 0), (11, some 1)], none), ([(12, some 2)], none), ([(9, some 3)], none), ([(9, some 3)], none)] 51 6 rfl rfl (by kernel_rfl) NewT.trans (NewT.refl _) (Nat.le_of_ble_eq_true rfl) ⟨?_, ?_, ?_, ?_, ?_, ?_, trivial⟩ ?_
  · exact fun a wx hT hF K hK => rely_wp rfl (opr_ldU (hT.row Rg1.out) rfl hF.1 (hK _ _ (NewT.refl _) rfl))
  · exact fun a wx hT hF K hK => rely_wp rfl (opr_move (.inl rfl) (hK _ _ (NewT.refl _) hF.1))
  · exact fun a wx hT hF K hK => rely_wp rfl (opr_cv (Due_cv sv l g lim wx ((NewT.trans _ _ _ HM.out hT).pairs HS.out) HOK.out) rfl Tryd.func78 (by kernel_rfl) (by kernel_rfl) (evs2 hF.1 hF.2.1) hK)
  · exact fun a wx hT hF K hK => rely_wp rfl (opr_move (.inl rfl) (hK _ _ (NewT.refl _) hF.1))
  · exact fun a wx hT hF K hK => rely_wp rfl (opr_ext rfl hF.1 rfl (hK _ _ (NewT.refl _) rfl))
  · exact fun a wx hT hF K hK => rely_wp rfl (opr_ext rfl hF.1 rfl (hK _ _ (NewT.refl _) rfl))
  · intro w1 k1
    iterate 6 (intro u h; obtain rfl := Eq.symm (h (by simp)); clear h)
    refine relyEnd_nil rfl ?_
    simp only [Act.put, List.setIfInBounds_toArray, List.set_cons_zero, List.set_cons_succ]
    refine wpList_new (n := 109) (f := recF (dueX l lim g) (.slice none 0 0) (.slice none 0 0)) rfl rfl rfl rfl rfl rfl (by first | (simp; done) | simp [Act.put]) run_alloc_rec info_rec (recF_one _ _ _ rfl rfl) rfl ?_
    intro W1 hn1 rr1
    simp only [Act.put, List.setIfInBounds_toArray, List.set_cons_zero, List.set_cons_succ]
    refine wpList_plain rfl (fun K hK => ?_)
    refine opr_move (.inr rfl) (hK _ _ ?_)
    clear hK K
    refine wpList_end rfl ?_
    simp only [Act.put, List.setIfInBounds_toArray, List.set_cons_zero, List.set_cons_succ]
    go_simp
    obtain ⟨g3, h_g3⟩ : ∃ g_, w1.heap.size = g_ := ⟨_, rfl⟩
    rw [h_g3] at rr1
    simp only [h_g3]
    have HGg3 : Hid (g1 < g3 ∧ g2 < g3 ∧ w.heap.size ≤ g3) := Lib.hid (by rw [← h_g3]; exact ⟨(k1.row Rg1.out).lt, (k1.row Rg2.out).lt, (NewT.trans _ _ _ HM.out k1).out.size⟩)
    have q1 := NewT.trans _ _ _ k1 hn1
    clear k1 hn1 h_g3
    replace Rg1 := Lib.hid (q1.row Rg1.out)
    replace Rg2 := Lib.hid (q1.row Rg2.out)
    replace HM := Lib.hid (NewT.trans _ _ _ HM.out q1)
    clear q1
    have Rg3 := Lib.hid rr1
    clear rr1
    go_upto_region 2 with fail
    obtain ⟨q1_2, Q1_2⟩ : ∃ bq_, ((inG lim g) && (x.kind == ((dueX l lim g).kind))) = bq_ := ⟨_, rfl⟩
    obtain ⟨q2_2, Q2_2⟩ : ∃ bq_, (q1_2 && (x.step == ((dueX l lim g).step))) = bq_ := ⟨_, rfl⟩
    obtain ⟨q3_2, Q3_2⟩ : ∃ bq_, (q2_2 && (x.tr == ((dueX l lim g).tr))) = bq_ := ⟨_, rfl⟩
    obtain ⟨q4_2, Q4_2⟩ : ∃ bq_, (q3_2 && (x.back == ((dueX l lim g).back))) = bq_ := ⟨_, rfl⟩
    obtain ⟨q5_2, Q5_2⟩ : ∃ bq_, (q4_2 && (x.nd == ((dueX l lim g).nd))) = bq_ := ⟨_, rfl⟩
    refine wp_region_steps0 NewT [SV.eq (.bool (inG lim g)), SV.eq (.bool (inG lim g)), svIf (inG lim g) (SV.eq (.pointer (some ⟨g2, 0, none⟩))), svIf (inG lim g) (SV.eq (.int .i64 (x.kind))), svIf (inG lim g) (SV.eq (.pointer (some ⟨g3, 0, none⟩))), svIf (inG lim g) (SV.eq (.int .i64 ((dueX l lim g).kind))), svIf (inG lim g) (SV.eq (.bool (x.kind == ((dueX l lim g).kind)))), SV.eq (.bool (q1_2)), SV.eq (.bool (q1_2)), svIf q1_2 (SV.eq (.pointer (some ⟨g2, 3, none⟩))), svIf q1_2 (SV.eq (.int .i64 (x.step))), svIf q1_2 (SV.eq (.pointer (some ⟨g3, 3, none⟩))), svIf q1_2 (SV.eq (.int .i64 ((dueX l lim g).step))), svIf q1_2 (SV.eq (.bool (x.step == ((dueX l lim g).step)))), SV.eq (.bool (q2_2)), SV.eq (.bool (q2_2)), svIf q2_2 (SV.eq (.pointer (some ⟨g2, 4, none⟩))), svIf q2_2 (SV.eq (.int .i64 (x.tr))), svIf q2_2 (SV.eq (.pointer (some ⟨g3, 4, none⟩))), svIf q2_2 (SV.eq (.int .i64 ((dueX l lim g).tr))), svIf q2_2 (SV.eq (.bool (x.tr == ((dueX l lim g).tr)))), SV.eq (.bool (q3_2)), SV.eq (.bool (q3_2)), svIf q3_2 (SV.eq (.pointer (some ⟨g2, 5, none⟩))), svIf q3_2 (SV.eq (.bool (x.back))), svIf q3_2 (SV.eq (.pointer (some ⟨g3, 5, none⟩))), svIf q3_2 (SV.eq (.bool ((dueX l lim g).back))), svIf q3_2 (SV.eq (.bool (x.back == ((dueX l lim g).back)))), SV.eq (.bool (q4_2)), SV.eq (.bool (q4_2)), svIf q4_2 (SV.eq (.pointer (some ⟨g2, 7, none⟩))), svIf q4_2 (SV.eq (.int .i64 (x.nd))), svIf q4_2 (SV.eq (.pointer (some ⟨g3, 7, none⟩))), svIf q4_2 (SV.eq (.int .i64 ((dueX l lim g).nd))), svIf q4_2 (SV.eq (.bool (x.nd == ((dueX l lim g).nd)))), SV.eq (.bool (q5_2)), SV.eq (.bool (q5_2))] [([(8, none)], none), ([(15, some 0)], none), ([(4, none), (16, some 1)], some (16, true)), ([(17, some 2), (16, some 1)], some (16, true)), ([(7, none), (16, some 1)], some (16, true)), ([(19, some 4), (16, some 1)], some (16, true)), ([(18, some 3), (20, some 5), (16, some 1)], some (16, true)), ([(16, some 1), (21, some 6)], none), ([(22, some 7)], none), ([(4, none), (23, some 8)], some (23, true)), ([(24, some 9), (23, some 8)], some (23, true)), ([(7, none), (23, some 8)], some (23, true)), ([(26, some 11), (23, some 8)], some (23, true)), ([(25, some 10), (27, some 12), (23, some 8)], some (23, true)), ([(23, some 8), (28, some 13)], none), ([(29, some 14)], none), ([(4, none), (30, some 15)], some (30, true)), ([(31, some 16), (30, some 15)], some (30, true)), ([(7, none), (30, some 15)], some (30, true)), ([(33, some 18), (30, some 15)], some (30, true)), ([(32, some 17), (34, some 19), (30, some 15)], some (30, true)), ([(30, some 15), (35, some 20)], none), ([(36, some 21)], none), ([(4, none), (37, some 22)], some (37, true)), ([(38, some 23), (37, some 22)], some (37, true)), ([(7, none), (37, some 22)], some (37, true)), ([(40, some 25), (37, some 22)], some (37, true)), ([(39, some 24), (41, some 26), (37, some 22)], some (37, true)), ([(37, some 22), (42, some 27)], none), ([(43, some 28)], none), ([(4, none), (44, some 29)], some (44, true)), ([(45, some 30), (44, some 29)], some (44, true)), ([(7, none), (44, some 29)], some (44, true)), ([(47, some 32), (44, some 29)], some (44, true)), ([(46, some 31), (48, some 33), (44, some 29)], some (44, true)), ([(44, some 29), (49, some 34)], none), ([(50, some 35)], none)] 51 37 rfl rfl (by kernel_rfl) NewT.trans (NewT.refl _) (Nat.le_of_ble_eq_true rfl) ⟨?_, ?_, ?_, ?_, ?_, ?_, ?_, ?_, ?_, ?_, ?_, ?_, ?_, ?_, ?_, ?_, ?_, ?_, ?_, ?_, ?_, ?_, ?_, ?_, ?_, ?_, ?_, ?_, ?_, ?_, ?_, ?_, ?_, ?_, ?_, ?_, ?_, trivial⟩ ?_
    · exact fun a wx hT hF K hK => rely_wp rfl (opr_move (.inl rfl) (hK _ _ (NewT.refl _) hF.1))
    · exact fun a wx hT hF K hK => rely_wp rfl (opr_move (.inl rfl) (hK _ _ (NewT.refl _) hF.1))
    · exact fun a wx hT hF K hK => rely_if (rely_gt hF.2.1) (NewT.refl _) hK fun hE hK => opr_fldR (by decide) rfl hF.1 (hK _ _ (NewT.refl _) rfl)
    · exact fun a wx hT hF K hK => rely_if (rely_gt hF.2.1) (NewT.refl _) hK fun hE hK => opr_ldI (hT.row Rg2.out) (by decide) rfl rfl (hF.1 hE) (hK _ _ (NewT.refl _) rfl)
    · exact fun a wx hT hF K hK => rely_if (rely_gt hF.2.1) (NewT.refl _) hK fun hE hK => opr_fldR (by decide) rfl hF.1 (hK _ _ (NewT.refl _) rfl)
    · exact fun a wx hT hF K hK => rely_if (rely_gt hF.2.1) (NewT.refl _) hK fun hE hK => opr_ldI (hT.row Rg3.out) (by decide) rfl rfl (hF.1 hE) (hK _ _ (NewT.refl _) rfl)
    · exact fun a wx hT hF K hK => rely_if (rely_gt hF.2.2.1) (NewT.refl _) hK fun hE hK => opr_cmp (b := x.kind == ((dueX l lim g).kind)) (.inl ⟨rfl, rfl⟩) Tryd.underlying3 rfl (hF.1 hE) (hF.2.1 hE) (hK _ _ (NewT.refl _) rfl)
    · exact fun a wx hT hF K hK => rely_wp rfl (opr_pick_b rfl hF.1 (fun hb => hK _ _ (NewT.refl _) (pn_and1 Q1_2 (hF.2.1 hb) hb)) (fun hb => hK _ _ (NewT.refl _) (pn_and0 Q1_2 hb)))
    · exact fun a wx hT hF K hK => rely_wp rfl (opr_move (.inl rfl) (hK _ _ (NewT.refl _) hF.1))
    · exact fun a wx hT hF K hK => rely_if (rely_gt hF.2.1) (NewT.refl _) hK fun hE hK => opr_fldR (by decide) rfl hF.1 (hK _ _ (NewT.refl _) rfl)
    · exact fun a wx hT hF K hK => rely_if (rely_gt hF.2.1) (NewT.refl _) hK fun hE hK => opr_ldI (hT.row Rg2.out) (by decide) rfl rfl (hF.1 hE) (hK _ _ (NewT.refl _) rfl)
    · exact fun a wx hT hF K hK => rely_if (rely_gt hF.2.1) (NewT.refl _) hK fun hE hK => opr_fldR (by decide) rfl hF.1 (hK _ _ (NewT.refl _) rfl)
    · exact fun a wx hT hF K hK => rely_if (rely_gt hF.2.1) (NewT.refl _) hK fun hE hK => opr_ldI (hT.row Rg3.out) (by decide) rfl rfl (hF.1 hE) (hK _ _ (NewT.refl _) rfl)
    · exact fun a wx hT hF K hK => rely_if (rely_gt hF.2.2.1) (NewT.refl _) hK fun hE hK => opr_cmp (b := x.step == ((dueX l lim g).step)) (.inl ⟨rfl, rfl⟩) Tryd.underlying3 rfl (hF.1 hE) (hF.2.1 hE) (hK _ _ (NewT.refl _) rfl)
    · exact fun a wx hT hF K hK => rely_wp rfl (opr_pick_b rfl hF.1 (fun hb => hK _ _ (NewT.refl _) (pn_and1 Q2_2 (hF.2.1 hb) hb)) (fun hb => hK _ _ (NewT.refl _) (pn_and0 Q2_2 hb)))
    · exact fun a wx hT hF K hK => rely_wp rfl (opr_move (.inl rfl) (hK _ _ (NewT.refl _) hF.1))
    · exact fun a wx hT hF K hK => rely_if (rely_gt hF.2.1) (NewT.refl _) hK fun hE hK => opr_fldR (by decide) rfl hF.1 (hK _ _ (NewT.refl _) rfl)
    · exact fun a wx hT hF K hK => rely_if (rely_gt hF.2.1) (NewT.refl _) hK fun hE hK => opr_ldI (hT.row Rg2.out) (by decide) rfl rfl (hF.1 hE) (hK _ _ (NewT.refl _) rfl)
    · exact fun a wx hT hF K hK => rely_if (rely_gt hF.2.1) (NewT.refl _) hK fun hE hK => opr_fldR (by decide) rfl hF.1 (hK _ _ (NewT.refl _) rfl)
    · exact fun a wx hT hF K hK => rely_if (rely_gt hF.2.1) (NewT.refl _) hK fun hE hK => opr_ldI (hT.row Rg3.out) (by decide) rfl rfl (hF.1 hE) (hK _ _ (NewT.refl _) rfl)
    · exact fun a wx hT hF K hK => rely_if (rely_gt hF.2.2.1) (NewT.refl _) hK fun hE hK => opr_cmp (b := x.tr == ((dueX l lim g).tr)) (.inl ⟨rfl, rfl⟩) Tryd.underlying3 rfl (hF.1 hE) (hF.2.1 hE) (hK _ _ (NewT.refl _) rfl)
    · exact fun a wx hT hF K hK => rely_wp rfl (opr_pick_b rfl hF.1 (fun hb => hK _ _ (NewT.refl _) (pn_and1 Q3_2 (hF.2.1 hb) hb)) (fun hb => hK _ _ (NewT.refl _) (pn_and0 Q3_2 hb)))
    · exact fun a wx hT hF K hK => rely_wp rfl (opr_move (.inl rfl) (hK _ _ (NewT.refl _) hF.1))
    · exact fun a wx hT hF K hK => rely_if (rely_gt hF.2.1) (NewT.refl _) hK fun hE hK => opr_fldR (by decide) rfl hF.1 (hK _ _ (NewT.refl _) rfl)
    · exact fun a wx hT hF K hK => rely_if (rely_gt hF.2.1) (NewT.refl _) hK fun hE hK => opr_ldQ (hT.row Rg2.out) (by decide) rfl rfl (hF.1 hE) (hK _ _ (NewT.refl _) rfl)
    · exact fun a wx hT hF K hK => rely_if (rely_gt hF.2.1) (NewT.refl _) hK fun hE hK => opr_fldR (by decide) rfl hF.1 (hK _ _ (NewT.refl _) rfl)
    · exact fun a wx hT hF K hK => rely_if (rely_gt hF.2.1) (NewT.refl _) hK fun hE hK => opr_ldQ (hT.row Rg3.out) (by decide) rfl rfl (hF.1 hE) (hK _ _ (NewT.refl _) rfl)
    · exact fun a wx hT hF K hK => rely_if (rely_gt hF.2.2.1) (NewT.refl _) hK fun hE hK => opr_eqlQ (b := x.back == ((dueX l lim g).back)) (rfl) rfl (hF.1 hE) (hF.2.1 hE) (hK _ _ (NewT.refl _) rfl)
    · exact fun a wx hT hF K hK => rely_wp rfl (opr_pick_b rfl hF.1 (fun hb => hK _ _ (NewT.refl _) (pn_and1 Q4_2 (hF.2.1 hb) hb)) (fun hb => hK _ _ (NewT.refl _) (pn_and0 Q4_2 hb)))
    · exact fun a wx hT hF K hK => rely_wp rfl (opr_move (.inl rfl) (hK _ _ (NewT.refl _) hF.1))
    · exact fun a wx hT hF K hK => rely_if (rely_gt hF.2.1) (NewT.refl _) hK fun hE hK => opr_fldR (by decide) rfl hF.1 (hK _ _ (NewT.refl _) rfl)
    · exact fun a wx hT hF K hK => rely_if (rely_gt hF.2.1) (NewT.refl _) hK fun hE hK => opr_ldI (hT.row Rg2.out) (by decide) rfl rfl (hF.1 hE) (hK _ _ (NewT.refl _) rfl)
    · exact fun a wx hT hF K hK => rely_if (rely_gt hF.2.1) (NewT.refl _) hK fun hE hK => opr_fldR (by decide) rfl hF.1 (hK _ _ (NewT.refl _) rfl)
    · exact fun a wx hT hF K hK => rely_if (rely_gt hF.2.1) (NewT.refl _) hK fun hE hK => opr_ldI (hT.row Rg3.out) (by decide) rfl rfl (hF.1 hE) (hK _ _ (NewT.refl _) rfl)
    · exact fun a wx hT hF K hK => rely_if (rely_gt hF.2.2.1) (NewT.refl _) hK fun hE hK => opr_cmp (b := x.nd == ((dueX l lim g).nd)) (.inl ⟨rfl, rfl⟩) Tryd.underlying3 rfl (hF.1 hE) (hF.2.1 hE) (hK _ _ (NewT.refl _) rfl)
    · exact fun a wx hT hF K hK => rely_wp rfl (opr_pick_b rfl hF.1 (fun hb => hK _ _ (NewT.refl _) (pn_and1 Q5_2 (hF.2.1 hb) hb)) (fun hb => hK _ _ (NewT.refl _) (pn_and0 Q5_2 hb)))
    · exact fun a wx hT hF K hK => rely_wp rfl (opr_move (.inr rfl) (hK _ _ (NewT.refl _) hF.1))
    · intro w2 k2
      iterate 2 (intro u h; obtain rfl := Eq.symm (h (by simp)); clear h)
      iterate 5 (intro _ _)
      iterate 2 (intro u h; obtain rfl := Eq.symm (h (by simp)); clear h)
      iterate 5 (intro _ _)
      iterate 2 (intro u h; obtain rfl := Eq.symm (h (by simp)); clear h)
      iterate 5 (intro _ _)
      iterate 2 (intro u h; obtain rfl := Eq.symm (h (by simp)); clear h)
      iterate 5 (intro _ _)
      iterate 2 (intro u h; obtain rfl := Eq.symm (h (by simp)); clear h)
      iterate 5 (intro _ _)
      iterate 2 (intro u h; obtain rfl := Eq.symm (h (by simp)); clear h)
      subst Q5_2 Q4_2 Q3_2 Q2_2 Q1_2
      refine relyEnd_nil rfl ?_
      refine wpList_end rfl ?_
      simp only [Act.put, List.setIfInBounds_toArray, List.set_cons_zero, List.set_cons_succ]
      go_simp
      replace Rg1 := Lib.hid (k2.row Rg1.out)
      replace Rg2 := Lib.hid (k2.row Rg2.out)
      replace Rg3 := Lib.hid (k2.row Rg3.out)
      replace HM := Lib.hid (NewT.trans _ _ _ HM.out k2)
      clear k2
      go_wp2
      go_ret
      exact ⟨_, rfl, HM.out, rfl⟩
set_option maxHeartbeats 4000000 in
theorem isOut_cv (sv : Value) (l : List (Int × Int)) (g : Sg) (x : Rc) (v : Value) (w : World) (hs : RdP w sv l) (hx : RecV w v x) (ok : OkG l g) : Cv 66 #[.agg (rowA 10 (sgF sv g)), v] w (.eq (.bool (isOutB l g x))) := by
  obtain ⟨su, dv, rfl, hsx, hdx⟩ := hx
  have HX : Hid (RecV w (.agg (rowA 109 (recF x su dv))) x) := Lib.hid ⟨su, dv, rfl, hsx, hdx⟩
  have HSX := Lib.hid hsx
  have HD := Lib.hid hdx
  clear hsx hdx
  unfold Cv
  have HS := Lib.hid hs
  have HOK := Lib.hid ok
  have HL6 : Hid (l.length ≤ 6) := Lib.hid ok.len.2
  have HTR := Lib.hid ok.tr
  clear hs ok
  go_enter Tryd.func66, Tryd.ntmps66
  go_upto_region 1 with fail
  have r_g1 := (rowIs_box w 59 10 (sgF sv g)).alloc (.cells (rowA 109 (recF x su dv)) 32)
  have r_g2 := rowIs_box (w.alloc (.cells (rowA 10 (sgF sv g)) 59)) 32 109 (recF x su dv)
  rw [World.size_alloc] at r_g2
  have hN : NewT w ((w.alloc (.cells (rowA 10 (sgF sv g)) 59)).alloc (.cells (rowA 109 (recF x su dv)) 32)) := (NewT.trans _ _ _ (NewT.alloc _ _) (NewT.alloc _ _))
  change Code.wp _ _ _ _ ((w.alloc (.cells (rowA 10 (sgF sv g)) 59)).alloc (.cells (rowA 109 (recF x su dv)) 32))
  generalize ((w.alloc (.cells (rowA 10 (sgF sv g)) 59)).alloc (.cells (rowA 109 (recF x su dv)) 32)) = W0 at r_g1 r_g2 hN ⊢
  obtain ⟨g1, h_g1⟩ : ∃ g_, w.heap.size = g_ := ⟨_, rfl⟩
  obtain ⟨g2, h_g2⟩ : ∃ g_, w.heap.size + 1 = g_ := ⟨_, rfl⟩
  have HG : Hid (w.heap.size ≤ g1 ∧ g1 < g2) := Lib.hid (by omega)
  rw [h_g1] at r_g1
  rw [h_g2] at r_g2
  try rw [h_g2]
  simp only [h_g1]
  have Rg1 := Lib.hid r_g1
  have Rg2 := Lib.hid r_g2
  have HM := Lib.hid hN
  clear r_g1 r_g2 hN h_g1 h_g2
  go_upto_region 1 with fail
  refine wp_region_steps0 NewT [SV.eq (.agg (rowA 10 (sgF sv g))), SV.eq ((.tuple #[.int .i64 (nextI l g), .bool (nextB l g)])), SV.eq ((.tuple #[.int .i64 (nextI l g), .bool (nextB l g)])), SV.eq (.int .i64 (nextI l g)), SV.eq (.bool (nextB l g))] [([(2, none)], none), ([(8, some 0)], none), ([(9, some 1)], none), ([(7, some 2)], none), ([(7, some 2)], none)] 37 5 rfl rfl (by kernel_rfl) NewT.trans (NewT.refl _) (Nat.le_of_ble_eq_true rfl) ⟨?_, ?_, ?_, ?_, ?_, trivial⟩ ?_
  · exact fun a wx hT hF K hK => rely_wp rfl (opr_ldU (hT.row Rg1.out) rfl hF.1 (hK _ _ (NewT.refl _) rfl))
  · exact fun a wx hT hF K hK => rely_wp rfl (opr_cv (next_cv sv l g wx ((NewT.trans _ _ _ HM.out hT).pairs HS.out) HL6.out) rfl Tryd.func79 (by kernel_rfl) (by kernel_rfl) (evs1 hF.1) hK)
  · exact fun a wx hT hF K hK => rely_wp rfl (opr_move (.inl rfl) (hK _ _ (NewT.refl _) hF.1))
  · exact fun a wx hT hF K hK => rely_wp rfl (opr_ext rfl hF.1 rfl (hK _ _ (NewT.refl _) rfl))
  · exact fun a wx hT hF K hK => rely_wp rfl (opr_ext rfl hF.1 rfl (hK _ _ (NewT.refl _) rfl))
  · intro w1 k1
    iterate 5 (intro u h; obtain rfl := Eq.symm (h (by simp)); clear h)
    refine relyEnd_nil rfl ?_
    simp only [Act.put, List.setIfInBounds_toArray, List.set_cons_zero, List.set_cons_succ]
    refine wpList_plain rfl (fun K hK => ?_)
    refine opr_move (.inr rfl) (hK _ _ ?_)
    clear hK K
    simp only [Act.put, List.setIfInBounds_toArray, List.set_cons_zero, List.set_cons_succ]
    refine wpList_plain rfl (fun K hK => ?_)
    refine opr_move (.inr rfl) (hK _ _ ?_)
    clear hK K
    refine wpList_end rfl ?_
    simp only [Act.put, List.setIfInBounds_toArray, List.set_cons_zero, List.set_cons_succ]
    go_simp
    replace Rg1 := Lib.hid (k1.row Rg1.out)
    replace Rg2 := Lib.hid (k1.row Rg2.out)
    replace HM := Lib.hid (NewT.trans _ _ _ HM.out k1)
    clear k1
    go_upto_region 2 with fail
    obtain ⟨q1_2, Q1_2⟩ : ∃ bq_, ((g.wt && (nextB l g)) && (x.step == (nextI l g))) = bq_ := ⟨_, rfl⟩
    obtain ⟨q2_2, Q2_2⟩ : ∃ bq_, ((q1_2 && (x.tr == g.tr)) && (x.back == g.bk)) = bq_ := ⟨_, rfl⟩
    refine wp_region_steps0 NewT [SV.eq (.pointer (some ⟨g1, 4, none⟩)), SV.eq (.bool (g.wt)), SV.eq (.bool (g.wt)), svIf (g.wt) (SV.eq (.bool (nextB l g))), SV.eq (.bool (g.wt && (nextB l g))), SV.eq (.bool (g.wt && (nextB l g))), svIf (g.wt && (nextB l g)) (SV.eq (.pointer (some ⟨g2, 3, none⟩))), svIf (g.wt && (nextB l g)) (SV.eq (.int .i64 (x.step))), svIf (g.wt && (nextB l g)) (SV.eq (.int .i64 (nextI l g))), svIf (g.wt && (nextB l g)) (SV.eq (.bool (x.step == (nextI l g)))), SV.eq (.bool (q1_2)), SV.eq (.bool (q1_2)), svIf q1_2 (SV.eq (.pointer (some ⟨g2, 4, none⟩))), svIf q1_2 (SV.eq (.int .i64 (x.tr))), svIf q1_2 (SV.eq (.pointer (some ⟨g1, 3, none⟩))), svIf q1_2 (SV.eq (.int .i64 (g.tr))), svIf q1_2 (SV.eq (.bool (x.tr == g.tr))), SV.eq (.bool (q1_2 && (x.tr == g.tr))), SV.eq (.bool (q1_2 && (x.tr == g.tr))), svIf (q1_2 && (x.tr == g.tr)) (SV.eq (.pointer (some ⟨g2, 5, none⟩))), svIf (q1_2 && (x.tr == g.tr)) (SV.eq (.bool (x.back))), svIf (q1_2 && (x.tr == g.tr)) (SV.eq (.pointer (some ⟨g1, 5, none⟩))), svIf (q1_2 && (x.tr == g.tr)) (SV.eq (.bool (g.bk))), svIf (q1_2 && (x.tr == g.tr)) (SV.eq (.bool (x.back == g.bk))), SV.eq (.bool (q2_2)), SV.eq (.bool (q2_2))] [([(2, none)], none), ([(12, some 0)], none), ([(13, some 1)], none), ([(6, none), (14, some 2)], some (14, true)), ([(14, some 2), (15, some 3)], none), ([(16, some 4)], none), ([(3, none), (17, some 5)], some (17, true)), ([(18, some 6), (17, some 5)], some (17, true)), ([(5, none), (17, some 5)], some (17, true)), ([(19, some 7), (20, some 8), (17, some 5)], some (17, true)), ([(17, some 5), (21, some 9)], none), ([(22, some 10)], none), ([(3, none), (23, some 11)], some (23, true)), ([(24, some 12), (23, some 11)], some (23, true)), ([(2, none), (23, some 11)], some (23, true)), ([(26, some 14), (23, some 11)], some (23, true)), ([(25, some 13), (27, some 15), (23, some 11)], some (23, true)), ([(23, some 11), (28, some 16)], none), ([(29, some 17)], none), ([(3, none), (30, some 18)], some (30, true)), ([(31, some 19), (30, some 18)], some (30, true)), ([(2, none), (30, some 18)], some (30, true)), ([(33, some 21), (30, some 18)], some (30, true)), ([(32, some 20), (34, some 22), (30, some 18)], some (30, true)), ([(30, some 18), (35, some 23)], none), ([(36, some 24)], none)] 37 26 rfl rfl (by kernel_rfl) NewT.trans (NewT.refl _) (Nat.le_of_ble_eq_true rfl) ⟨?_, ?_, ?_, ?_, ?_, ?_, ?_, ?_, ?_, ?_, ?_, ?_, ?_, ?_, ?_, ?_, ?_, ?_, ?_, ?_, ?_, ?_, ?_, ?_, ?_, ?_, trivial⟩ ?_
    · exact fun a wx hT hF K hK => rely_wp rfl (opr_fldU4 rfl hF.1 (hK _ _ (NewT.refl _) rfl))
    · exact fun a wx hT hF K hK => rely_wp rfl (opr_ldQ (hT.row Rg1.out) (by decide) rfl rfl hF.1 (hK _ _ (NewT.refl _) rfl))
    · exact fun a wx hT hF K hK => rely_wp rfl (opr_move (.inl rfl) (hK _ _ (NewT.refl _) hF.1))
    · exact fun a wx hT hF K hK => rely_if (rely_gt hF.2.1) (NewT.refl _) hK fun hE hK => opr_move (.inl rfl) (hK _ _ (NewT.refl _) hF.1)
    · exact fun a wx hT hF K hK => rely_wp rfl (opr_pick_b rfl hF.1 (fun hb => hK _ _ (NewT.refl _) (pk_and1 (hF.2.1 hb) hb)) (fun hb => hK _ _ (NewT.refl _) (pk_and0 hb)))
    · exact fun a wx hT hF K hK => rely_wp rfl (opr_move (.inl rfl) (hK _ _ (NewT.refl _) hF.1))
    · exact fun a wx hT hF K hK => rely_if (rely_gt hF.2.1) (NewT.refl _) hK fun hE hK => opr_fldR (by decide) rfl hF.1 (hK _ _ (NewT.refl _) rfl)
    · exact fun a wx hT hF K hK => rely_if (rely_gt hF.2.1) (NewT.refl _) hK fun hE hK => opr_ldI (hT.row Rg2.out) (by decide) rfl rfl (hF.1 hE) (hK _ _ (NewT.refl _) rfl)
    · exact fun a wx hT hF K hK => rely_if (rely_gt hF.2.1) (NewT.refl _) hK fun hE hK => opr_move (.inl rfl) (hK _ _ (NewT.refl _) hF.1)
    · exact fun a wx hT hF K hK => rely_if (rely_gt hF.2.2.1) (NewT.refl _) hK fun hE hK => opr_cmp (b := x.step == (nextI l g)) (.inl ⟨rfl, rfl⟩) Tryd.underlying3 rfl (hF.1 hE) (hF.2.1 hE) (hK _ _ (NewT.refl _) rfl)
    · exact fun a wx hT hF K hK => rely_wp rfl (opr_pick_b rfl hF.1 (fun hb => hK _ _ (NewT.refl _) (pn_and1 Q1_2 (hF.2.1 hb) hb)) (fun hb => hK _ _ (NewT.refl _) (pn_and0 Q1_2 hb)))
    · exact fun a wx hT hF K hK => rely_wp rfl (opr_move (.inl rfl) (hK _ _ (NewT.refl _) hF.1))
    · exact fun a wx hT hF K hK => rely_if (rely_gt hF.2.1) (NewT.refl _) hK fun hE hK => opr_fldR (by decide) rfl hF.1 (hK _ _ (NewT.refl _) rfl)
    · exact fun a wx hT hF K hK => rely_if (rely_gt hF.2.1) (NewT.refl _) hK fun hE hK => opr_ldI (hT.row Rg2.out) (by decide) rfl rfl (hF.1 hE) (hK _ _ (NewT.refl _) rfl)
    · exact fun a wx hT hF K hK => rely_if (rely_gt hF.2.1) (NewT.refl _) hK fun hE hK => opr_fldU3 rfl hF.1 (hK _ _ (NewT.refl _) rfl)
    · exact fun a wx hT hF K hK => rely_if (rely_gt hF.2.1) (NewT.refl _) hK fun hE hK => opr_ldI (hT.row Rg1.out) (by decide) rfl rfl (hF.1 hE) (hK _ _ (NewT.refl _) rfl)
    · exact fun a wx hT hF K hK => rely_if (rely_gt hF.2.2.1) (NewT.refl _) hK fun hE hK => opr_cmp (b := x.tr == g.tr) (.inl ⟨rfl, rfl⟩) Tryd.underlying3 rfl (hF.1 hE) (hF.2.1 hE) (hK _ _ (NewT.refl _) rfl)
    · exact fun a wx hT hF K hK => rely_wp rfl (opr_pick_b rfl hF.1 (fun hb => hK _ _ (NewT.refl _) (pk_and1 (hF.2.1 hb) hb)) (fun hb => hK _ _ (NewT.refl _) (pk_and0 hb)))
    · exact fun a wx hT hF K hK => rely_wp rfl (opr_move (.inl rfl) (hK _ _ (NewT.refl _) hF.1))
    · exact fun a wx hT hF K hK => rely_if (rely_gt hF.2.1) (NewT.refl _) hK fun hE hK => opr_fldR (by decide) rfl hF.1 (hK _ _ (NewT.refl _) rfl)
    · exact fun a wx hT hF K hK => rely_if (rely_gt hF.2.1) (NewT.refl _) hK fun hE hK => opr_ldQ (hT.row Rg2.out) (by decide) rfl rfl (hF.1 hE) (hK _ _ (NewT.refl _) rfl)
    · exact fun a wx hT hF K hK => rely_if (rely_gt hF.2.1) (NewT.refl _) hK fun hE hK => opr_fldU5 rfl hF.1 (hK _ _ (NewT.refl _) rfl)
    · exact fun a wx hT hF K hK => rely_if (rely_gt hF.2.1) (NewT.refl _) hK fun hE hK => opr_ldQ (hT.row Rg1.out) (by decide) rfl rfl (hF.1 hE) (hK _ _ (NewT.refl _) rfl)
    · exact fun a wx hT hF K hK => rely_if (rely_gt hF.2.2.1) (NewT.refl _) hK fun hE hK => opr_eqlQ (b := x.back == g.bk) (rfl) rfl (hF.1 hE) (hF.2.1 hE) (hK _ _ (NewT.refl _) rfl)
    · exact fun a wx hT hF K hK => rely_wp rfl (opr_pick_b rfl hF.1 (fun hb => hK _ _ (NewT.refl _) (pn_and1 Q2_2 (hF.2.1 hb) hb)) (fun hb => hK _ _ (NewT.refl _) (pn_and0 Q2_2 hb)))
    · exact fun a wx hT hF K hK => rely_wp rfl (opr_move (.inr rfl) (hK _ _ (NewT.refl _) hF.1))
    · intro w2 k2
      iterate 3 (intro u h; obtain rfl := Eq.symm (h (by simp)); clear h)
      intro _ _
      iterate 2 (intro u h; obtain rfl := Eq.symm (h (by simp)); clear h)
      iterate 4 (intro _ _)
      iterate 2 (intro u h; obtain rfl := Eq.symm (h (by simp)); clear h)
      iterate 5 (intro _ _)
      iterate 2 (intro u h; obtain rfl := Eq.symm (h (by simp)); clear h)
      iterate 5 (intro _ _)
      iterate 2 (intro u h; obtain rfl := Eq.symm (h (by simp)); clear h)
      subst Q2_2 Q1_2
      refine relyEnd_nil rfl ?_
      refine wpList_end rfl ?_
      simp only [Act.put, List.setIfInBounds_toArray, List.set_cons_zero, List.set_cons_succ]
      go_simp
      replace Rg1 := Lib.hid (k2.row Rg1.out)
      replace Rg2 := Lib.hid (k2.row Rg2.out)
      replace HM := Lib.hid (NewT.trans _ _ _ HM.out k2)
      clear k2
      go_wp2
      go_ret
      exact ⟨_, rfl, HM.out, rfl⟩
set_option maxHeartbeats 4000000 in
theorem fits_cv (sv : Value) (l : List (Int × Int)) (g : Sg) (x : Rc) (v : Value) (lim : Int) (w : World) (hs : RdP w sv l) (hx : RecV w v x) (ok : OkG l g) : Cv 59 #[.agg (rowA 10 (sgF sv g)), v, .int .i64 lim] w (.eq (.bool (fitsB l lim g x))) := by
  obtain ⟨su, dv, rfl, hsx, hdx⟩ := hx
  have HX : Hid (RecV w (.agg (rowA 109 (recF x su dv))) x) := Lib.hid ⟨su, dv, rfl, hsx, hdx⟩
  have HSX := Lib.hid hsx
  have HD := Lib.hid hdx
  clear hsx hdx
  unfold Cv
  have HS := Lib.hid hs
  have HOK := Lib.hid ok
  have HL6 : Hid (l.length ≤ 6) := Lib.hid ok.len.2
  have HTR := Lib.hid ok.tr
  clear hs ok
  go_enter Tryd.func59, Tryd.ntmps59
  go_upto_region 1 with fail
  have r_g1 := (rowIs_box w 59 10 (sgF sv g)).alloc (.cells (rowA 109 (recF x su dv)) 32)
  have r_g2 := rowIs_box (w.alloc (.cells (rowA 10 (sgF sv g)) 59)) 32 109 (recF x su dv)
  rw [World.size_alloc] at r_g2
  have hN : NewT w ((w.alloc (.cells (rowA 10 (sgF sv g)) 59)).alloc (.cells (rowA 109 (recF x su dv)) 32)) := (NewT.trans _ _ _ (NewT.alloc _ _) (NewT.alloc _ _))
  change Code.wp _ _ _ _ ((w.alloc (.cells (rowA 10 (sgF sv g)) 59)).alloc (.cells (rowA 109 (recF x su dv)) 32))
  generalize ((w.alloc (.cells (rowA 10 (sgF sv g)) 59)).alloc (.cells (rowA 109 (recF x su dv)) 32)) = W0 at r_g1 r_g2 hN ⊢
  obtain ⟨g1, h_g1⟩ : ∃ g_, w.heap.size = g_ := ⟨_, rfl⟩
  obtain ⟨g2, h_g2⟩ : ∃ g_, w.heap.size + 1 = g_ := ⟨_, rfl⟩
  have HG : Hid (w.heap.size ≤ g1 ∧ g1 < g2) := Lib.hid (by omega)
  rw [h_g1] at r_g1
  rw [h_g2] at r_g2
  try rw [h_g2]
  simp only [h_g1]
  have Rg1 := Lib.hid r_g1
  have Rg2 := Lib.hid r_g2
  have HM := Lib.hid hN
  clear r_g1 r_g2 hN h_g1 h_g2
  have c0 : W0.cell? ⟨g2, 0, none⟩ = some (.int .i64 x.kind) := Rg2.out.cell (i := 0) (by omega)
  by_cases hk : x.kind = 2
  · have HE : Hid (fitsB l lim g x = isDueB l lim g x) := Lib.hid (by unfold fitsB; rw [if_pos (.inl hk)])
    rw [hk] at c0
    clear hk
    go_upto_region 4 with fail
    clear c0
    refine wp_region_steps0 NewT [SV.eq (.agg (rowA 10 (sgF sv g))), SV.eq (.agg (rowA 109 (recF x su dv))), SV.eq (.int .i64 (lim)), SV.eq (.bool (isDueB l lim g x)), SV.eq (.bool (isDueB l lim g x))] [([(3, none)], none), ([(4, none)], none), ([(2, none)], none), ([(12, some 0), (13, some 1), (14, some 2)], none), ([(15, some 3)], none)] 22 5 rfl rfl (by kernel_rfl) NewT.trans (NewT.refl _) (Nat.le_of_ble_eq_true rfl) ⟨?_, ?_, ?_, ?_, ?_, trivial⟩ ?_
    · exact fun a wx hT hF K hK => rely_wp rfl (opr_ldU (hT.row Rg1.out) rfl hF.1 (hK _ _ (NewT.refl _) rfl))
    · exact fun a wx hT hF K hK => rely_wp rfl (opr_ldR (hT.row Rg2.out) rfl hF.1 (hK _ _ (NewT.refl _) rfl))
    · exact fun a wx hT hF K hK => rely_wp rfl (opr_move (.inl rfl) (hK _ _ (NewT.refl _) hF.1))
    · exact fun a wx hT hF K hK => rely_wp rfl (opr_cv (isDue_cv sv l g x _ lim wx ((NewT.trans _ _ _ HM.out hT).pairs HS.out) ((NewT.trans _ _ _ HM.out hT).recV HX.out) HOK.out) rfl Tryd.func65 (by kernel_rfl) (by kernel_rfl) (evs3 hF.1 hF.2.1 hF.2.2.1) hK)
    · exact fun a wx hT hF K hK => rely_wp rfl (opr_move (.inr rfl) (hK _ _ (NewT.refl _) hF.1))
    · intro w1 k1
      iterate 5 (intro u h; obtain rfl := Eq.symm (h (by simp)); clear h)
      refine relyEnd_nil rfl ?_
      refine wpList_end rfl ?_
      simp only [Act.put, List.setIfInBounds_toArray, List.set_cons_zero, List.set_cons_succ]
      go_simp
      replace Rg1 := Lib.hid (k1.row Rg1.out)
      replace Rg2 := Lib.hid (k1.row Rg2.out)
      replace HM := Lib.hid (NewT.trans _ _ _ HM.out k1)
      clear k1
      go_wp2
      go_ret
      exact ⟨_, rfl, HM.out, by show _ = Value.bool _; rw [HE.out]; first | done | rfl⟩
  have k2 := hk
  clear hk
  by_cases hk : x.kind = 5
  · have HE : Hid (fitsB l lim g x = isDueB l lim g x) := Lib.hid (by unfold fitsB; rw [if_pos (.inr hk)])
    rw [hk] at c0
    clear hk k2
    go_upto_region 4 with fail
    clear c0
    refine wp_region_steps0 NewT [SV.eq (.agg (rowA 10 (sgF sv g))), SV.eq (.agg (rowA 109 (recF x su dv))), SV.eq (.int .i64 (lim)), SV.eq (.bool (isDueB l lim g x)), SV.eq (.bool (isDueB l lim g x))] [([(3, none)], none), ([(4, none)], none), ([(2, none)], none), ([(12, some 0), (13, some 1), (14, some 2)], none), ([(15, some 3)], none)] 22 5 rfl rfl (by kernel_rfl) NewT.trans (NewT.refl _) (Nat.le_of_ble_eq_true rfl) ⟨?_, ?_, ?_, ?_, ?_, trivial⟩ ?_
    · exact fun a wx hT hF K hK => rely_wp rfl (opr_ldU (hT.row Rg1.out) rfl hF.1 (hK _ _ (NewT.refl _) rfl))
    · exact fun a wx hT hF K hK => rely_wp rfl (opr_ldR (hT.row Rg2.out) rfl hF.1 (hK _ _ (NewT.refl _) rfl))
    · exact fun a wx hT hF K hK => rely_wp rfl (opr_move (.inl rfl) (hK _ _ (NewT.refl _) hF.1))
    · exact fun a wx hT hF K hK => rely_wp rfl (opr_cv (isDue_cv sv l g x _ lim wx ((NewT.trans _ _ _ HM.out hT).pairs HS.out) ((NewT.trans _ _ _ HM.out hT).recV HX.out) HOK.out) rfl Tryd.func65 (by kernel_rfl) (by kernel_rfl) (evs3 hF.1 hF.2.1 hF.2.2.1) hK)
    · exact fun a wx hT hF K hK => rely_wp rfl (opr_move (.inr rfl) (hK _ _ (NewT.refl _) hF.1))
    · intro w2 k2
      iterate 5 (intro u h; obtain rfl := Eq.symm (h (by simp)); clear h)
      refine relyEnd_nil rfl ?_
      refine wpList_end rfl ?_
      simp only [Act.put, List.setIfInBounds_toArray, List.set_cons_zero, List.set_cons_succ]
      go_simp
      replace Rg1 := Lib.hid (k2.row Rg1.out)
      replace Rg2 := Lib.hid (k2.row Rg2.out)
      replace HM := Lib.hid (NewT.trans _ _ _ HM.out k2)
      clear k2
      go_wp2
      go_ret
      exact ⟨_, rfl, HM.out, by show _ = Value.bool _; rw [HE.out]; first | done | rfl⟩
  have k5 := hk
  clear hk
  by_cases hk : x.kind = 3
  · have HE : Hid (fitsB l lim g x = isOutB l g x) := Lib.hid (by unfold fitsB; rw [if_neg (by omega), if_pos (.inl hk)])
    rw [hk] at c0
    clear hk k2 k5
    go_upto_region 7 with fail
    clear c0
    refine wp_region_steps0 NewT [SV.eq (.agg (rowA 10 (sgF sv g))), SV.eq (.agg (rowA 109 (recF x su dv))), SV.eq (.bool (isOutB l g x)), SV.eq (.bool (isOutB l g x))] [([(3, none)], none), ([(4, none)], none), ([(19, some 0), (20, some 1)], none), ([(21, some 2)], none)] 22 4 rfl rfl (by kernel_rfl) NewT.trans (NewT.refl _) (Nat.le_of_ble_eq_true rfl) ⟨?_, ?_, ?_, ?_, trivial⟩ ?_
    · exact fun a wx hT hF K hK => rely_wp rfl (opr_ldU (hT.row Rg1.out) rfl hF.1 (hK _ _ (NewT.refl _) rfl))
    · exact fun a wx hT hF K hK => rely_wp rfl (opr_ldR (hT.row Rg2.out) rfl hF.1 (hK _ _ (NewT.refl _) rfl))
    · exact fun a wx hT hF K hK => rely_wp rfl (opr_cv (isOut_cv sv l g x _ wx ((NewT.trans _ _ _ HM.out hT).pairs HS.out) ((NewT.trans _ _ _ HM.out hT).recV HX.out) HOK.out) rfl Tryd.func66 (by kernel_rfl) (by kernel_rfl) (evs2 hF.1 hF.2.1) hK)
    · exact fun a wx hT hF K hK => rely_wp rfl (opr_move (.inr rfl) (hK _ _ (NewT.refl _) hF.1))
    · intro w3 k3
      iterate 4 (intro u h; obtain rfl := Eq.symm (h (by simp)); clear h)
      refine relyEnd_nil rfl ?_
      refine wpList_end rfl ?_
      simp only [Act.put, List.setIfInBounds_toArray, List.set_cons_zero, List.set_cons_succ]
      go_simp
      replace Rg1 := Lib.hid (k3.row Rg1.out)
      replace Rg2 := Lib.hid (k3.row Rg2.out)
      replace HM := Lib.hid (NewT.trans _ _ _ HM.out k3)
      clear k3
      go_wp2
      go_ret
      exact ⟨_, rfl, HM.out, by show _ = Value.bool _; rw [HE.out]; first | done | rfl⟩
  have k3 := hk
  clear hk
  by_cases hk : x.kind = 4
  · have HE : Hid (fitsB l lim g x = isOutB l g x) := Lib.hid (by unfold fitsB; rw [if_neg (by omega), if_pos (.inr hk)])
    rw [hk] at c0
    clear hk k2 k5 k3
    go_upto_region 7 with fail
    clear c0
    refine wp_region_steps0 NewT [SV.eq (.agg (rowA 10 (sgF sv g))), SV.eq (.agg (rowA 109 (recF x su dv))), SV.eq (.bool (isOutB l g x)), SV.eq (.bool (isOutB l g x))] [([(3, none)], none), ([(4, none)], none), ([(19, some 0), (20, some 1)], none), ([(21, some 2)], none)] 22 4 rfl rfl (by kernel_rfl) NewT.trans (NewT.refl _) (Nat.le_of_ble_eq_true rfl) ⟨?_, ?_, ?_, ?_, trivial⟩ ?_
    · exact fun a wx hT hF K hK => rely_wp rfl (opr_ldU (hT.row Rg1.out) rfl hF.1 (hK _ _ (NewT.refl _) rfl))
    · exact fun a wx hT hF K hK => rely_wp rfl (opr_ldR (hT.row Rg2.out) rfl hF.1 (hK _ _ (NewT.refl _) rfl))
    · exact fun a wx hT hF K hK => rely_wp rfl (opr_cv (isOut_cv sv l g x _ wx ((NewT.trans _ _ _ HM.out hT).pairs HS.out) ((NewT.trans _ _ _ HM.out hT).recV HX.out) HOK.out) rfl Tryd.func66 (by kernel_rfl) (by kernel_rfl) (evs2 hF.1 hF.2.1) hK)
    · exact fun a wx hT hF K hK => rely_wp rfl (opr_move (.inr rfl) (hK _ _ (NewT.refl _) hF.1))
    · intro w4 k4
      iterate 4 (intro u h; obtain rfl := Eq.symm (h (by simp)); clear h)
      refine relyEnd_nil rfl ?_
      refine wpList_end rfl ?_
      simp only [Act.put, List.setIfInBounds_toArray, List.set_cons_zero, List.set_cons_succ]
      go_simp
      replace Rg1 := Lib.hid (k4.row Rg1.out)
      replace Rg2 := Lib.hid (k4.row Rg2.out)
      replace HM := Lib.hid (NewT.trans _ _ _ HM.out k4)
      clear k4
      go_wp2
      go_ret
      exact ⟨_, rfl, HM.out, by show _ = Value.bool _; rw [HE.out]; first | done | rfl⟩
  have k4 := hk
  clear hk
  have HE : Hid (fitsB l lim g x = false) := Lib.hid (by unfold fitsB; rw [if_neg (by omega), if_neg (by omega)])
  have q2 : (x.kind == 2) = false := by simpa using k2
  have q3 : (x.kind == 3) = false := by simpa using k3
  have q4 : (x.kind == 4) = false := by simpa using k4
  have q5 : (x.kind == 5) = false := by simpa using k5
  clear k2 k3 k4 k5
  go_wp2
  go_ret
  exact ⟨_, rfl, HM.out, by show _ = Value.bool _; rw [HE.out]; first | done | rfl⟩
set_option maxHeartbeats 4000000 in
theorem Go_cv (sv : Value) (l : List (Int × Int)) (g : Sg) (x : Rc) (v : Value) (lim : Int) (w : World) (hs : RdP w sv l) (hx : RecV w v x) (ok : OkG l g) : Cv 50 #[.agg (rowA 10 (sgF sv g)), v, .int .i64 lim] w (.eq (.tuple #[.agg (rowA 10 (sgF sv (wentG l lim g x))), .bool (goesB l lim g x)])) := by
  obtain ⟨su, dv, rfl, hsx, hdx⟩ := hx
  have HX : Hid (RecV w (.agg (rowA 109 (recF x su dv))) x) := Lib.hid ⟨su, dv, rfl, hsx, hdx⟩
  have HSX := Lib.hid hsx
  have HD := Lib.hid hdx
  clear hsx hdx
  unfold Cv
  have HS := Lib.hid hs
  have HOK := Lib.hid ok
  have HL6 : Hid (l.length ≤ 6) := Lib.hid ok.len.2
  have HTR := Lib.hid ok.tr
  clear hs ok
  go_enter Tryd.func50, Tryd.ntmps50
  go_upto_region 1 with fail
  have r_g1 := ((rowIs_box w 59 10 (sgF sv g)).alloc (.cells (rowA 109 (recF x su dv)) 32)).alloc (.cells (rowA 10 (sgF (.slice none 0 0) zG)) 59)
  have r_g2 := (rowIs_box (w.alloc (.cells (rowA 10 (sgF sv g)) 59)) 32 109 (recF x su dv)).alloc (.cells (rowA 10 (sgF (.slice none 0 0) zG)) 59)
  rw [World.size_alloc] at r_g2
  have r_g3 := rowIs_box ((w.alloc (.cells (rowA 10 (sgF sv g)) 59)).alloc (.cells (rowA 109 (recF x su dv)) 32)) 59 10 (sgF (.slice none 0 0) zG)
  rw [World.size_alloc, World.size_alloc] at r_g3
  have hN : NewT w (((w.alloc (.cells (rowA 10 (sgF sv g)) 59)).alloc (.cells (rowA 109 (recF x su dv)) 32)).alloc (.cells (rowA 10 (sgF (.slice none 0 0) zG)) 59)) := (NewT.trans _ _ _ ((NewT.trans _ _ _ (NewT.alloc _ _) (NewT.alloc _ _))) (NewT.alloc _ _))
  change Code.wp _ _ _ _ (((w.alloc (.cells (rowA 10 (sgF sv g)) 59)).alloc (.cells (rowA 109 (recF x su dv)) 32)).alloc (.cells (rowA 10 (sgF (.slice none 0 0) zG)) 59))
  generalize (((w.alloc (.cells (rowA 10 (sgF sv g)) 59)).alloc (.cells (rowA 109 (recF x su dv)) 32)).alloc (.cells (rowA 10 (sgF (.slice none 0 0) zG)) 59)) = W0 at r_g1 r_g2 r_g3 hN ⊢
  obtain ⟨g1, h_g1⟩ : ∃ g_, w.heap.size = g_ := ⟨_, rfl⟩
  obtain ⟨g2, h_g2⟩ : ∃ g_, w.heap.size + 1 = g_ := ⟨_, rfl⟩
  obtain ⟨g3, h_g3⟩ : ∃ g_, w.heap.size + 1 + 1 = g_ := ⟨_, rfl⟩
  have HG : Hid (w.heap.size ≤ g1 ∧ g1 < g2 ∧ g2 < g3) := Lib.hid (by omega)
  rw [h_g1] at r_g1
  rw [h_g2] at r_g2
  rw [h_g3] at r_g3
  try rw [h_g3]
  try rw [h_g2]
  simp only [h_g1]
  have Rg1 := Lib.hid r_g1
  have Rg2 := Lib.hid r_g2
  have Rg3 := Lib.hid r_g3
  have HM := Lib.hid hN
  clear r_g1 r_g2 r_g3 hN h_g1 h_g2 h_g3
  go_upto_region 1 with fail
  obtain ⟨q1_1, Q1_1⟩ : ∃ bq_, ((!(inR lim 1 9)) || (x.seq != g.sq)) = bq_ := ⟨_, rfl⟩
  refine wp_region_steps0 NewT [SV.eq (.int .i64 (lim)), SV.eq (.bool (inR lim 1 9)), SV.eq (.bool (!(inR lim 1 9))), SV.eq (.bool (!(inR lim 1 9))), svIf ((!(!(inR lim 1 9)))) (SV.eq (.pointer (some ⟨g2, 2, none⟩))), svIf ((!(!(inR lim 1 9)))) (SV.eq (.int .i64 (x.seq))), svIf ((!(!(inR lim 1 9)))) (SV.eq (.pointer (some ⟨g1, 9, none⟩))), svIf ((!(!(inR lim 1 9)))) (SV.eq (.int .i64 (g.sq))), svIf ((!(!(inR lim 1 9)))) (SV.eq (.bool (x.seq != g.sq))), SV.eq (.bool (q1_1)), SV.eq (.bool (q1_1)), svIf ((!q1_1)) (SV.eq (.agg (rowA 10 (sgF sv g)))), svIf ((!q1_1)) (SV.eq (.agg (rowA 109 (recF x su dv)))), svIf ((!q1_1)) (SV.eq (.int .i64 (lim))), svIf ((!q1_1)) (SV.eq (.bool (fitsB l lim g x))), svIf ((!q1_1)) (SV.eq (.bool (!(fitsB l lim g x)))), SV.eq (.bool (q1_1 || (!(fitsB l lim g x))))] [([(2, none)], none), ([(8, some 0)], none), ([(9, some 1)], none), ([(10, some 2)], none), ([(4, none), (11, some 3)], some (11, false)), ([(12, some 4), (11, some 3)], some (11, false)), ([(3, none), (11, some 3)], some (11, false)), ([(14, some 6), (11, some 3)], some (11, false)), ([(13, some 5), (15, some 7), (11, some 3)], some (11, false)), ([(11, some 3), (16, some 8)], none), ([(17, some 9)], none), ([(3, none), (18, some 10)], some (18, false)), ([(4, none), (18, some 10)], some (18, false)), ([(2, none), (18, some 10)], some (18, false)), ([(19, some 11), (20, some 12), (21, some 13), (18, some 10)], some (18, false)), ([(22, some 14), (18, some 10)], some (18, false)), ([(18, some 10), (23, some 15)], none)] 30 17 rfl rfl (by kernel_rfl) NewT.trans (NewT.refl _) (Nat.le_of_ble_eq_true rfl) ⟨?_, ?_, ?_, ?_, ?_, ?_, ?_, ?_, ?_, ?_, ?_, ?_, ?_, ?_, ?_, ?_, ?_, trivial⟩ ?_
  · exact fun a wx hT hF K hK => rely_wp rfl (opr_move (.inl rfl) (hK _ _ (NewT.refl _) hF.1))
  · exact fun a wx hT hF K hK => rely_wp rfl (opr_cv (gLimit_cv lim wx) rfl Tryd.func58 (by kernel_rfl) (by kernel_rfl) (evs1 hF.1) hK)
  · exact fun a wx hT hF K hK => rely_wp rfl (opr_not rfl hF.1 (hK _ _ (NewT.refl _) rfl))
  · exact fun a wx hT hF K hK => rely_wp rfl (opr_move (.inl rfl) (hK _ _ (NewT.refl _) hF.1))
  · exact fun a wx hT hF K hK => rely_if (rely_gf hF.2.1) (NewT.refl _) hK fun hE hK => opr_fldR (by decide) rfl hF.1 (hK _ _ (NewT.refl _) rfl)
  · exact fun a wx hT hF K hK => rely_if (rely_gf hF.2.1) (NewT.refl _) hK fun hE hK => opr_ldI (hT.row Rg2.out) (by decide) rfl rfl (hF.1 hE) (hK _ _ (NewT.refl _) rfl)
  · exact fun a wx hT hF K hK => rely_if (rely_gf hF.2.1) (NewT.refl _) hK fun hE hK => opr_fldU9 rfl hF.1 (hK _ _ (NewT.refl _) rfl)
  · exact fun a wx hT hF K hK => rely_if (rely_gf hF.2.1) (NewT.refl _) hK fun hE hK => opr_ldI (hT.row Rg1.out) (by decide) rfl rfl (hF.1 hE) (hK _ _ (NewT.refl _) rfl)
  · exact fun a wx hT hF K hK => rely_if (rely_gf hF.2.2.1) (NewT.refl _) hK fun hE hK => opr_cmp (b := x.seq != g.sq) (.inr (.inl ⟨rfl, rfl⟩)) Tryd.underlying3 rfl (hF.1 hE) (hF.2.1 hE) (hK _ _ (NewT.refl _) rfl)
  · exact fun a wx hT hF K hK => rely_wp rfl (opr_pick_b rfl hF.1 (fun hb => hK _ _ (NewT.refl _) (pn_or1 Q1_1 hb)) (fun hb => hK _ _ (NewT.refl _) (pn_or0 Q1_1 (hF.2.1 (bnot hb)) hb)))
  · exact fun a wx hT hF K hK => rely_wp rfl (opr_move (.inl rfl) (hK _ _ (NewT.refl _) hF.1))
  · exact fun a wx hT hF K hK => rely_if (rely_gf hF.2.1) (NewT.refl _) hK fun hE hK => opr_ldU (hT.row Rg1.out) rfl hF.1 (hK _ _ (NewT.refl _) rfl)
  · exact fun a wx hT hF K hK => rely_if (rely_gf hF.2.1) (NewT.refl _) hK fun hE hK => opr_ldR (hT.row Rg2.out) rfl hF.1 (hK _ _ (NewT.refl _) rfl)
  · exact fun a wx hT hF K hK => rely_if (rely_gf hF.2.1) (NewT.refl _) hK fun hE hK => opr_move (.inl rfl) (hK _ _ (NewT.refl _) hF.1)
  · exact fun a wx hT hF K hK => rely_if (rely_gf hF.2.2.2.1) (NewT.refl _) hK fun hE hK => opr_cv (fits_cv sv l g x _ lim wx ((NewT.trans _ _ _ HM.out hT).pairs HS.out) ((NewT.trans _ _ _ HM.out hT).recV HX.out) HOK.out) rfl Tryd.func59 (by kernel_rfl) (by kernel_rfl) (evs3 (hF.1 hE) (hF.2.1 hE) (hF.2.2.1 hE)) hK
  · exact fun a wx hT hF K hK => rely_if (rely_gf hF.2.1) (NewT.refl _) hK fun hE hK => opr_not rfl (hF.1 hE) (hK _ _ (NewT.refl _) rfl)
  · exact fun a wx hT hF K hK => rely_wp rfl (opr_pick_b rfl hF.1 (fun hb => hK _ _ (NewT.refl _) (pk_or1 hb)) (fun hb => hK _ _ (NewT.refl _) (pk_or0 (hF.2.1 (bnot hb)) hb)))
  · intro w1 k1
    iterate 4 (intro u h; obtain rfl := Eq.symm (h (by simp)); clear h)
    iterate 5 (intro _ _)
    iterate 2 (intro u h; obtain rfl := Eq.symm (h (by simp)); clear h)
    iterate 5 (intro _ _)
    intro u h; obtain rfl := Eq.symm (h (by simp)); clear h
    subst Q1_1
    refine relyEnd_nil rfl ?_
    refine wpList_end rfl ?_
    simp only [Act.put, List.setIfInBounds_toArray, List.set_cons_zero, List.set_cons_succ]
    go_simp
    replace Rg1 := Lib.hid (k1.row Rg1.out)
    replace Rg2 := Lib.hid (k1.row Rg2.out)
    replace Rg3 := Lib.hid (k1.row Rg3.out)
    replace HM := Lib.hid (NewT.trans _ _ _ HM.out k1)
    clear k1
    cases hb : (((!(inR lim 1 9)) || (x.seq != g.sq)) || (!(fitsB l lim g x)))
    · have HE : Hid (goesB l lim g x = true ∧ wentG l lim g x = behG l lim g x) := Lib.hid (by
        have hI : goesB l lim g x = true := by unfold goesB; rw [hb]; rfl
        exact ⟨hI, by unfold wentG; rw [hI, if_pos rfl]⟩)
      have hf : fitsB l lim g x = true := by
        rw [Bool.or_eq_false_iff] at hb
        simpa using hb.2
      have HST := Lib.hid (fits_pre HOK.out.len.1 hf).1
      have HKD := Lib.hid (fits_pre HOK.out.len.1 hf).2
      have HAT := Lib.hid HOK.out.at_
      have HSQ := Lib.hid HOK.out.sq
      clear hb hf
      go_upto_region 3 with fail
      refine wp_region_steps0 NewT [SV.eq (.agg (rowA 10 (sgF sv g))), SV.eq (.agg (rowA 109 (recF x su dv))), SV.eq (.int .i64 (lim)), SV.eq ((.agg (rowA 10 (sgF sv (behG l lim g x)))))] [([(3, none)], none), ([(4, none)], none), ([(2, none)], none), ([(26, some 0), (27, some 1), (28, some 2)], none)] 30 4 rfl rfl (by kernel_rfl) NewT.trans (NewT.refl _) (Nat.le_of_ble_eq_true rfl) ⟨?_, ?_, ?_, ?_, trivial⟩ ?_
      · exact fun a wx hT hF K hK => rely_wp rfl (opr_ldU (hT.row Rg1.out) rfl hF.1 (hK _ _ (NewT.refl _) rfl))
      · exact fun a wx hT hF K hK => rely_wp rfl (opr_ldR (hT.row Rg2.out) rfl hF.1 (hK _ _ (NewT.refl _) rfl))
      · exact fun a wx hT hF K hK => rely_wp rfl (opr_move (.inl rfl) (hK _ _ (NewT.refl _) hF.1))
      · exact fun a wx hT hF K hK => rely_wp rfl (opr_cv (behind_cv sv l g x _ lim wx ((NewT.trans _ _ _ HM.out hT).pairs HS.out) ((NewT.trans _ _ _ HM.out hT).recV HX.out) HL6.out HST.out HKD.out HAT.out HSQ.out) rfl Tryd.func60 (by kernel_rfl) (by kernel_rfl) (evs3 hF.1 hF.2.1 hF.2.2.1) hK)
      · intro w2 k2
        iterate 4 (intro u h; obtain rfl := Eq.symm (h (by simp)); clear h)
        refine relyEnd_nil rfl ?_
        simp only [Act.put, List.setIfInBounds_toArray, List.set_cons_zero, List.set_cons_succ]
        refine wpList_plain rfl (fun K hK => ?_)
        refine opr_putm (g := g3) (o0 := 0) (m := 10) (f := sgF sv (behG l lim g x)) (F := sgF sv (behG l lim g x)) rfl rfl rfl (k2.row Rg3.out) (by decide) info_saga (sgF_one _ _ (oneP HS.out)) (put_allN _ _ _) ?_
        intro W2 hR2 rr2
        refine hK _ _ ?_
        clear hK K
        simp only [Act.put, List.setIfInBounds_toArray, List.set_cons_zero, List.set_cons_succ]
        refine wpList_plain rfl (fun K hK => ?_)
        refine opr_move (.inr rfl) (hK _ _ ?_)
        clear hK K
        refine wpList_end rfl ?_
        simp only [Act.put, List.setIfInBounds_toArray, List.set_cons_zero, List.set_cons_succ]
        go_simp
        replace Rg3 := Lib.hid rr2
        replace Rg1 := Lib.hid (hR2.row (by have h_0 := HG.out; omega) (k2.row Rg1.out))
        replace Rg2 := Lib.hid (hR2.row (by have h_0 := HG.out; omega) (k2.row Rg2.out))
        replace HM := Lib.hid (NewT.rt (NewT.trans _ _ _ HM.out k2) hR2 (by have h_0 := HG.out; omega))
        clear k2 hR2 rr2
        go_wp2
        exact bodyPost_ret (results_rt rfl rfl rfl Rg3.out Tryd.underlying59 rfl info_saga) rfl ⟨_, rfl, HM.out, by show _ = Value.tuple _; rw [HE.out.1, HE.out.2]; first | done | rfl⟩
    · have HE : Hid (goesB l lim g x = false ∧ wentG l lim g x = g) := Lib.hid (by
        have hI : goesB l lim g x = false := by unfold goesB; rw [hb]; rfl
        exact ⟨hI, by unfold wentG; rw [hI, if_neg (by simp)]⟩)
      clear hb
      go_upto_region 2 with fail
      refine wp_region_steps0 NewT [SV.eq (.agg (rowA 10 (sgF sv g)))] [([(3, none)], none)] 30 1 rfl rfl (by kernel_rfl) NewT.trans (NewT.refl _) (Nat.le_of_ble_eq_true rfl) ⟨?_, trivial⟩ ?_
      · exact fun a wx hT hF K hK => rely_wp rfl (opr_ldU (hT.row Rg1.out) rfl hF.1 (hK _ _ (NewT.refl _) rfl))
      · intro w3 k3
        intro u h; obtain rfl := Eq.symm (h (by simp)); clear h
        refine relyEnd_nil rfl ?_
        simp only [Act.put, List.setIfInBounds_toArray, List.set_cons_zero, List.set_cons_succ]
        refine wpList_plain rfl (fun K hK => ?_)
        refine opr_putm (g := g3) (o0 := 0) (m := 10) (f := sgF sv g) (F := sgF sv g) rfl rfl rfl (k3.row Rg3.out) (by decide) info_saga (sgF_one _ _ (oneP HS.out)) (put_allN _ _ _) ?_
        intro W3 hR3 rr3
        refine hK _ _ ?_
        clear hK K
        simp only [Act.put, List.setIfInBounds_toArray, List.set_cons_zero, List.set_cons_succ]
        refine wpList_plain rfl (fun K hK => ?_)
        refine opr_move (.inr rfl) (hK _ _ ?_)
        clear hK K
        refine wpList_end rfl ?_
        simp only [Act.put, List.setIfInBounds_toArray, List.set_cons_zero, List.set_cons_succ]
        go_simp
        replace Rg3 := Lib.hid rr3
        replace Rg1 := Lib.hid (hR3.row (by have h_0 := HG.out; omega) (k3.row Rg1.out))
        replace Rg2 := Lib.hid (hR3.row (by have h_0 := HG.out; omega) (k3.row Rg2.out))
        replace HM := Lib.hid (NewT.rt (NewT.trans _ _ _ HM.out k3) hR3 (by have h_0 := HG.out; omega))
        clear k3 hR3 rr3
        go_wp2
        exact bodyPost_ret (results_rt rfl rfl rfl Rg3.out Tryd.underlying59 rfl info_saga) rfl ⟨_, rfl, HM.out, by show _ = Value.tuple _; rw [HE.out.1, HE.out.2]; first | done | rfl⟩
end Go.Proofs.YtilmeffmdgcblaaDoor
/- Package rec: ranges; steps; slices compared. -/
namespace Go.Proofs.YtilmeffmdgcblaaDoor
open Go Go.RowKit
set_option maxRecDepth 8000
set_option linter.all false
set_option maxHeartbeats 400000 in
theorem within_cv (n lo hi : Int) (w : World) : Cv 42 #[.int .i64 n, .int .i64 lo, .int .i64 hi] w (.eq (.bool (inR n lo hi))) := by
  unfold Cv
  go_enter Tryd.func42, Tryd.ntmps42
  go_upto_region 1 with fail
  obtain ⟨q1_1, Q1_1⟩ : ∃ bq_, ((decide (lo ≤ n)) && (decide (n ≤ hi))) = bq_ := ⟨_, rfl⟩
  refine wp_region_steps0 NewT [SV.eq (.int .i64 (lo)), SV.eq (.int .i64 (n)), SV.eq (.bool (decide (lo ≤ n))), SV.eq (.bool (decide (lo ≤ n))), svIf (decide (lo ≤ n)) (SV.eq (.int .i64 (n))), svIf (decide (lo ≤ n)) (SV.eq (.int .i64 (hi))), svIf (decide (lo ≤ n)) (SV.eq (.bool (decide (n ≤ hi)))), SV.eq (.bool (q1_1)), SV.eq (.bool (q1_1))] [([(1, none)], none), ([(0, none)], none), ([(7, some 0), (8, some 1)], none), ([(9, some 2)], none), ([(0, none), (10, some 3)], some (10, true)), ([(2, none), (10, some 3)], some (10, true)), ([(11, some 4), (12, some 5), (10, some 3)], some (10, true)), ([(10, some 3), (13, some 6)], none), ([(14, some 7)], none)] 15 9 rfl rfl (by kernel_rfl) NewT.trans (NewT.refl _) (Nat.le_of_ble_eq_true rfl) ⟨?_, ?_, ?_, ?_, ?_, ?_, ?_, ?_, ?_, trivial⟩ ?_
  · exact fun a wx hT hF K hK => rely_wp rfl (opr_move (.inl rfl) (hK _ _ (NewT.refl _) hF.1))
  · exact fun a wx hT hF K hK => rely_wp rfl (opr_move (.inl rfl) (hK _ _ (NewT.refl _) hF.1))
  · exact fun a wx hT hF K hK => rely_wp rfl (opr_cmp (b := decide (lo ≤ n)) (.inr (.inr (.inl ⟨rfl, rfl⟩))) Tryd.underlying3 rfl hF.1 hF.2.1 (hK _ _ (NewT.refl _) rfl))
  · exact fun a wx hT hF K hK => rely_wp rfl (opr_move (.inl rfl) (hK _ _ (NewT.refl _) hF.1))
  · exact fun a wx hT hF K hK => rely_if (rely_gt hF.2.1) (NewT.refl _) hK fun hE hK => opr_move (.inl rfl) (hK _ _ (NewT.refl _) hF.1)
  · exact fun a wx hT hF K hK => rely_if (rely_gt hF.2.1) (NewT.refl _) hK fun hE hK => opr_move (.inl rfl) (hK _ _ (NewT.refl _) hF.1)
  · exact fun a wx hT hF K hK => rely_if (rely_gt hF.2.2.1) (NewT.refl _) hK fun hE hK => opr_cmp (b := decide (n ≤ hi)) (.inr (.inr (.inl ⟨rfl, rfl⟩))) Tryd.underlying3 rfl (hF.1 hE) (hF.2.1 hE) (hK _ _ (NewT.refl _) rfl)
  · exact fun a wx hT hF K hK => rely_wp rfl (opr_pick_b rfl hF.1 (fun hb => hK _ _ (NewT.refl _) (pn_and1 Q1_1 (hF.2.1 hb) hb)) (fun hb => hK _ _ (NewT.refl _) (pn_and0 Q1_1 hb)))
  · exact fun a wx hT hF K hK => rely_wp rfl (opr_move (.inr rfl) (hK _ _ (NewT.refl _) hF.1))
  · intro wx hT
    iterate 4 (intro u h; obtain rfl := Eq.symm (h (by simp)); clear h)
    iterate 3 (intro _ _)
    iterate 2 (intro u h; obtain rfl := Eq.symm (h (by simp)); clear h)
    subst Q1_1
    refine relyEnd_nil rfl ?_
    refine wpList_end rfl ?_
    simp only [Act.put, List.setIfInBounds_toArray, List.set_cons_zero, List.set_cons_succ]
    go_simp
    go_wp2
    go_ret
    exact ⟨_, rfl, hT, rfl⟩
set_option maxHeartbeats 400000 in
theorem isSaga_cv (n : Int) (w : World) : Cv 39 #[.int .i64 n] w (.eq (.bool (inR n 0 11))) := by
  unfold Cv
  go_enter Tryd.func39, Tryd.ntmps39
  go_upto_region 1 with fail
  refine wp_region_steps0 NewT [SV.eq (.int .i64 (n)), SV.eq (.bool (inR n 0 11)), SV.eq (.bool (inR n 0 11))] [([(0, none)], none), ([(3, some 0)], none), ([(4, some 1)], none)] 5 3 rfl rfl (by kernel_rfl) NewT.trans (NewT.refl _) (Nat.le_of_ble_eq_true rfl) ⟨?_, ?_, ?_, trivial⟩ ?_
  · exact fun a wx hT hF K hK => rely_wp rfl (opr_move (.inl rfl) (hK _ _ (NewT.refl _) hF.1))
  · exact fun a wx hT hF K hK => rely_wp rfl (opr_cv (within_cv n 0 11 wx) rfl Tryd.func42 (by kernel_rfl) (by kernel_rfl) (evs3 hF.1 rfl rfl) hK)
  · exact fun a wx hT hF K hK => rely_wp rfl (opr_move (.inr rfl) (hK _ _ (NewT.refl _) hF.1))
  · intro wx hT
    iterate 3 (intro u h; obtain rfl := Eq.symm (h (by simp)); clear h)
    refine relyEnd_nil rfl ?_
    refine wpList_end rfl ?_
    simp only [Act.put, List.setIfInBounds_toArray, List.set_cons_zero, List.set_cons_succ]
    go_simp
    go_wp2
    go_ret
    exact ⟨_, rfl, hT, rfl⟩
set_option maxHeartbeats 400000 in
theorem isSeq_cv (n : Int) (w : World) : Cv 43 #[.int .i64 n] w (.eq (.bool (inR n 1 400))) := by
  unfold Cv
  go_enter Tryd.func43, Tryd.ntmps43
  go_upto_region 1 with fail
  refine wp_region_steps0 NewT [SV.eq (.int .i64 (n)), SV.eq (.bool (inR n 1 400)), SV.eq (.bool (inR n 1 400))] [([(0, none)], none), ([(3, some 0)], none), ([(4, some 1)], none)] 5 3 rfl rfl (by kernel_rfl) NewT.trans (NewT.refl _) (Nat.le_of_ble_eq_true rfl) ⟨?_, ?_, ?_, trivial⟩ ?_
  · exact fun a wx hT hF K hK => rely_wp rfl (opr_move (.inl rfl) (hK _ _ (NewT.refl _) hF.1))
  · exact fun a wx hT hF K hK => rely_wp rfl (opr_cv (within_cv n 1 400 wx) rfl Tryd.func42 (by kernel_rfl) (by kernel_rfl) (evs3 hF.1 rfl rfl) hK)
  · exact fun a wx hT hF K hK => rely_wp rfl (opr_move (.inr rfl) (hK _ _ (NewT.refl _) hF.1))
  · intro wx hT
    iterate 3 (intro u h; obtain rfl := Eq.symm (h (by simp)); clear h)
    refine relyEnd_nil rfl ?_
    refine wpList_end rfl ?_
    simp only [Act.put, List.setIfInBounds_toArray, List.set_cons_zero, List.set_cons_succ]
    go_simp
    go_wp2
    go_ret
    exact ⟨_, rfl, hT, rfl⟩
set_option maxHeartbeats 400000 in
theorem isPart_cv (n : Int) (w : World) : Cv 41 #[.int .i64 n] w (.eq (.bool (inR n 0 3))) := by
  unfold Cv
  go_enter Tryd.func41, Tryd.ntmps41
  go_upto_region 1 with fail
  refine wp_region_steps0 NewT [SV.eq (.int .i64 (n)), SV.eq (.bool (inR n 0 3)), SV.eq (.bool (inR n 0 3))] [([(0, none)], none), ([(3, some 0)], none), ([(4, some 1)], none)] 5 3 rfl rfl (by kernel_rfl) NewT.trans (NewT.refl _) (Nat.le_of_ble_eq_true rfl) ⟨?_, ?_, ?_, trivial⟩ ?_
  · exact fun a wx hT hF K hK => rely_wp rfl (opr_move (.inl rfl) (hK _ _ (NewT.refl _) hF.1))
  · exact fun a wx hT hF K hK => rely_wp rfl (opr_cv (within_cv n 0 3 wx) rfl Tryd.func42 (by kernel_rfl) (by kernel_rfl) (evs3 hF.1 rfl rfl) hK)
  · exact fun a wx hT hF K hK => rely_wp rfl (opr_move (.inr rfl) (hK _ _ (NewT.refl _) hF.1))
  · intro wx hT
    iterate 3 (intro u h; obtain rfl := Eq.symm (h (by simp)); clear h)
    refine relyEnd_nil rfl ?_
    refine wpList_end rfl ?_
    simp only [Act.put, List.setIfInBounds_toArray, List.set_cons_zero, List.set_cons_succ]
    go_simp
    go_wp2
    go_ret
    exact ⟨_, rfl, hT, rfl⟩
set_option maxHeartbeats 400000 in
theorem isStep_cv (s : Int × Int) (w : World) : Cv 52 #[.agg (rowA 2 (stepF s))] w (.eq (.bool (stepOk s))) := by
  unfold Cv
  go_enter Tryd.func52, Tryd.ntmps52
  go_upto_region 1 with fail
  have r1 := rowIs_box w 50 2 (stepF s)
  have hN := NewT.alloc w (.cells (rowA 2 (stepF s)) 50)
  change Code.wp _ _ _ _ (w.alloc (.cells (rowA 2 (stepF s)) 50))
  generalize w.alloc (.cells (rowA 2 (stepF s)) 50) = W0 at r1 hN ⊢
  have R1 := Lib.hid r1
  have HN := Lib.hid hN
  clear r1 hN
  refine wp_region_steps0 NewT [SV.eq (.pointer (some ⟨w.heap.size, 0 + 0, none⟩)), SV.eq (.int .i64 (s.1)), SV.eq (.bool (inR s.1 0 3)), SV.eq (.bool (inR s.1 0 3)), svIf (inR s.1 0 3) (SV.eq (.pointer (some ⟨w.heap.size, 0 + 1, none⟩))), svIf (inR s.1 0 3) (SV.eq (.int .i64 (s.2))), svIf (inR s.1 0 3) (SV.eq (.bool (inR s.2 1 3))), SV.eq (.bool ((inR s.1 0 3) && (inR s.2 1 3))), SV.eq (.bool ((inR s.1 0 3) && (inR s.2 1 3)))] [([(1, none)], none), ([(3, some 0)], none), ([(4, some 1)], none), ([(5, some 2)], none), ([(1, none), (6, some 3)], some (6, true)), ([(7, some 4), (6, some 3)], some (6, true)), ([(8, some 5), (6, some 3)], some (6, true)), ([(6, some 3), (9, some 6)], none), ([(10, some 7)], none)] 11 9 rfl rfl (by kernel_rfl) NewT.trans (NewT.refl _) (Nat.le_of_ble_eq_true rfl) ⟨?_, ?_, ?_, ?_, ?_, ?_, ?_, ?_, ?_, trivial⟩ ?_
  · exact fun a wx hT hF K hK => rely_wp rfl (opr_fldS (by decide) rfl hF.1 (hK _ _ (NewT.refl _) rfl))
  · exact fun a wx hT hF K hK => rely_wp rfl (opr_ldI (hT.row R1.out) (by decide) rfl rfl hF.1 (hK _ _ (NewT.refl _) rfl))
  · exact fun a wx hT hF K hK => rely_wp rfl (opr_cv (isPart_cv s.1 wx) rfl Tryd.func41 (by kernel_rfl) (by kernel_rfl) (evs1 hF.1) hK)
  · exact fun a wx hT hF K hK => rely_wp rfl (opr_move (.inl rfl) (hK _ _ (NewT.refl _) hF.1))
  · exact fun a wx hT hF K hK => rely_if (rely_gt hF.2.1) (NewT.refl _) hK fun hE hK => opr_fldS (by decide) rfl hF.1 (hK _ _ (NewT.refl _) rfl)
  · exact fun a wx hT hF K hK => rely_if (rely_gt hF.2.1) (NewT.refl _) hK fun hE hK => opr_ldI (hT.row R1.out) (by decide) rfl rfl (hF.1 hE) (hK _ _ (NewT.refl _) rfl)
  · exact fun a wx hT hF K hK => rely_if (rely_gt hF.2.1) (NewT.refl _) hK fun hE hK => opr_cv (within_cv s.2 1 3 wx) rfl Tryd.func42 (by kernel_rfl) (by kernel_rfl) (evs3 (hF.1 hE) rfl rfl) hK
  · exact fun a wx hT hF K hK => rely_wp rfl (opr_pick_b rfl hF.1 (fun hb => hK _ _ (NewT.refl _) (pk_and1 (hF.2.1 hb) hb)) (fun hb => hK _ _ (NewT.refl _) (pk_and0 hb)))
  · exact fun a wx hT hF K hK => rely_wp rfl (opr_move (.inr rfl) (hK _ _ (NewT.refl _) hF.1))
  · intro wx hT
    iterate 4 (intro u h; obtain rfl := Eq.symm (h (by simp)); clear h)
    iterate 3 (intro _ _)
    iterate 2 (intro u h; obtain rfl := Eq.symm (h (by simp)); clear h)
    refine relyEnd_nil rfl ?_
    refine wpList_end rfl ?_
    simp only [Act.put, List.setIfInBounds_toArray, List.set_cons_zero, List.set_cons_succ]
    go_simp
    go_wp2
    go_ret
    exact ⟨_, rfl, NewT.trans _ _ _ HN.out hT, rfl⟩
theorem all_next (l : List (Int × Int)) (k : Nat) (hk : k < l.length) : (l.take (k + 1)).all stepOk = ((l.take k).all stepOk && stepOk (l.getD k (0, 0))) := by
  have e : l.take (k + 1) = l.take k ++ [l[k]] := by rw [List.take_add_one, List.getElem?_eq_getElem hk]; rfl
  rw [e, List.all_append]
  simp [List.getD, hk]
theorem all_not (l : List (Int × Int)) (k : Nat) (hk : k < l.length) (h : stepOk (l.getD k (0, 0)) = false) : l.all stepOk = false := by
  rw [List.all_eq_false]
  refine ⟨l.getD k (0, 0), ?_, by rw [h]; simp⟩
  simp [List.getD, hk]
set_option maxHeartbeats 1000000 in
theorem areSteps_cv (v : Value) (l : List (Int × Int)) (w : World) (h : RdP w v l) : Cv 40 #[v] w (.eq (.bool (stepsOk l))) := by
  unfold Cv
  obtain ⟨A0, cap, rfl, h1, h2, h3⟩ := h
  have H3 := Lib.hid h3
  unfold maxLen at h2
  unfold stepsOk
  clear h3
  generalize hn : l.length = n at *
  have Hn := Lib.hid hn
  clear hn
  cases hin : inR (n : Int) 1 6
  · go_enter Tryd.func40, Tryd.ntmps40
    go_wp2_with (go_at_call 42; refine (within_cv n 1 6 w).eq.mono ?_; rintro _ w' ⟨rfl, hB⟩; rw [hin])
    go_ret
    exact ⟨_, rfl, hB, by rw [Bool.false_and]; rfl⟩
  rw [Bool.true_and]
  have hr := (inR_iff _ _ _).1 hin
  go_enter Tryd.func40, Tryd.ntmps40
  go_wp2_with (go_at_call 42; refine (within_cv n 1 6 w).eq.mono ?_; rintro _ w' ⟨rfl, hB⟩; rw [hin])
  go_loopw [11] (fun i wr => ∃ k : Nat, k ≤ n ∧ i = .int .i64 k ∧ Hid ((l.take k).all stepOk = true) ∧ Below w.heap.size w wr) (fun i _ => n - (intOf i).toNat)
  case atStart => exact ⟨0, by omega, rfl, Lib.hid (by simp), hB⟩
  case round =>
    clear hB hin
    obtain ⟨k, hk, rfl, Hs, qB⟩ := hrel
    by_cases hlt : k < n
    · obtain ⟨b, o, rfl, hcell⟩ := H3.out (by omega)
      obtain ⟨j0, j1⟩ := hcell k hlt
      have k0 := (qB.cell (p := ⟨b, o + 2 * k, none⟩) (World.block_lt_of_cell? _ _ j0)).trans j0
      have k1 := (qB.cell (p := ⟨b, o + 2 * k + 1, none⟩) (World.block_lt_of_cell? _ _ j1)).trans j1
      have Hal := Lib.hid (all_next l k (by rw [Hn.out]; exact hlt))
      have Hno := Lib.hid (all_not l k (by rw [Hn.out]; exact hlt))
      clear hcell j0 j1
      generalize l.getD k (0, 0) = s at k0 k1 Hal Hno
      have it : (k : Int) < (n : Int) := by omega
      cases hq : stepOk s
      · have Hq := Lib.hid hq
        clear hq
        go_upto_region 5 with fail
        refine wp_region_steps0 NewT [SV.eq (.pointer (some ⟨b, o + 2 * k, none⟩)), SV.eq (.agg (rowA 2 (stepF s)))] [([(9, none), (11, none)], none), ([(13, some 0)], none)] 19 2 rfl rfl (by kernel_rfl) NewT.trans (NewT.refl _) (Nat.le_of_ble_eq_true rfl) ⟨?_, ?_, trivial⟩ ?_
        · exact fun a wx hT hF K hK => rely_wp rfl (opr_idxS hlt rfl hF.1 hF.2.1 (hK _ _ (NewT.refl _) rfl))
        · exact fun a wx hT hF K hK => rely_wp rfl (opr_ld2 ((hT.out.cell (World.block_lt_of_cell? _ _ k0)).trans k0) ((hT.out.cell (World.block_lt_of_cell? _ _ k1)).trans k1) rfl hF.1 (hK _ _ (NewT.refl _) rfl))
        · intro w5 h5
          iterate 2 (intro u h; obtain rfl := Eq.symm (h (by simp)); clear h)
          refine relyEnd_nil rfl ?_
          simp only [Act.put, List.setIfInBounds_toArray, List.set_cons_zero, List.set_cons_succ]
          refine wpList_new (n := 2) rfl rfl rfl rfl rfl rfl (by simp) run_alloc_step info_step (stepF_one s) rfl ?_
          intro wn hNn rn
          refine wpList_end rfl ?_
          simp only [Act.put, List.setIfInBounds_toArray, List.set_cons_zero, List.set_cons_succ]
          go_simp
          clear k0 k1
          go_upto_region 6 with fail
          refine wp_region_steps0 NewT [SV.eq (.agg (rowA 2 (stepF s))), SV.eq (.bool false), SV.eq (.bool true)] [([(4, none)], none), ([(15, some 0)], none), ([(16, some 1)], none)] 19 3 rfl rfl (by kernel_rfl) NewT.trans (NewT.refl _) (Nat.le_of_ble_eq_true rfl) ⟨?_, ?_, ?_, trivial⟩ ?_
          · exact fun a wx hT hF K hK => rely_wp rfl (opr_ldSt (hT.row rn) rfl hF.1 (hK _ _ (NewT.refl _) rfl))
          · exact fun a wx hT hF K hK => rely_wp rfl (opr_cv (Hq.out ▸ isStep_cv s wx) rfl Tryd.func52 (by kernel_rfl) (by kernel_rfl) (evs1 hF.1) hK)
          · exact fun a wx hT hF K hK => rely_wp rfl (opr_not rfl hF.1 (hK _ _ (NewT.refl _) rfl))
          · intro wy hT2
            iterate 3 (intro u h; obtain rfl := Eq.symm (h (by simp)); clear h)
            refine relyEnd_nil rfl ?_
            refine wpList_end rfl ?_
            simp only [Act.put, List.setIfInBounds_toArray, List.set_cons_zero, List.set_cons_succ]
            go_simp
            have hB2 : Below w.heap.size w wy := qB.trans ((h5.out.mono qB.size).trans ((hNn.out.mono (Nat.le_trans qB.size h5.out.size)).trans (hT2.out.mono (Nat.le_trans qB.size (Nat.le_trans h5.out.size hNn.out.size)))))
            go_wp2
            go_ret
            exact ⟨_, rfl, hB2, by rw [Hno.out Hq.out]; rfl⟩
      · have Hq := Lib.hid hq
        clear hq
        go_upto_region 5 with fail
        refine wp_region_steps0 NewT [SV.eq (.pointer (some ⟨b, o + 2 * k, none⟩)), SV.eq (.agg (rowA 2 (stepF s)))] [([(9, none), (11, none)], none), ([(13, some 0)], none)] 19 2 rfl rfl (by kernel_rfl) NewT.trans (NewT.refl _) (Nat.le_of_ble_eq_true rfl) ⟨?_, ?_, trivial⟩ ?_
        · exact fun a wx hT hF K hK => rely_wp rfl (opr_idxS hlt rfl hF.1 hF.2.1 (hK _ _ (NewT.refl _) rfl))
        · exact fun a wx hT hF K hK => rely_wp rfl (opr_ld2 ((hT.out.cell (World.block_lt_of_cell? _ _ k0)).trans k0) ((hT.out.cell (World.block_lt_of_cell? _ _ k1)).trans k1) rfl hF.1 (hK _ _ (NewT.refl _) rfl))
        · intro w5 h5
          iterate 2 (intro u h; obtain rfl := Eq.symm (h (by simp)); clear h)
          refine relyEnd_nil rfl ?_
          simp only [Act.put, List.setIfInBounds_toArray, List.set_cons_zero, List.set_cons_succ]
          refine wpList_new (n := 2) rfl rfl rfl rfl rfl rfl (by simp) run_alloc_step info_step (stepF_one s) rfl ?_
          intro wn hNn rn
          refine wpList_end rfl ?_
          simp only [Act.put, List.setIfInBounds_toArray, List.set_cons_zero, List.set_cons_succ]
          go_simp
          clear k0 k1
          go_upto_region 6 with fail
          refine wp_region_steps0 NewT [SV.eq (.agg (rowA 2 (stepF s))), SV.eq (.bool true), SV.eq (.bool false)] [([(4, none)], none), ([(15, some 0)], none), ([(16, some 1)], none)] 19 3 rfl rfl (by kernel_rfl) NewT.trans (NewT.refl _) (Nat.le_of_ble_eq_true rfl) ⟨?_, ?_, ?_, trivial⟩ ?_
          · exact fun a wx hT hF K hK => rely_wp rfl (opr_ldSt (hT.row rn) rfl hF.1 (hK _ _ (NewT.refl _) rfl))
          · exact fun a wx hT hF K hK => rely_wp rfl (opr_cv (Hq.out ▸ isStep_cv s wx) rfl Tryd.func52 (by kernel_rfl) (by kernel_rfl) (evs1 hF.1) hK)
          · exact fun a wx hT hF K hK => rely_wp rfl (opr_not rfl hF.1 (hK _ _ (NewT.refl _) rfl))
          · intro wy hT2
            iterate 3 (intro u h; obtain rfl := Eq.symm (h (by simp)); clear h)
            refine relyEnd_nil rfl ?_
            refine wpList_end rfl ?_
            simp only [Act.put, List.setIfInBounds_toArray, List.set_cons_zero, List.set_cons_succ]
            go_simp
            have hB2 : Below w.heap.size w wy := qB.trans ((h5.out.mono qB.size).trans ((hNn.out.mono (Nat.le_trans qB.size h5.out.size)).trans (hT2.out.mono (Nat.le_trans qB.size (Nat.le_trans h5.out.size hNn.out.size)))))
            go_wp2
            go_roundw
            case rel => exact ⟨k + 1, by omega, by go_num, Lib.hid (by rw [Hal.out, Hs.out, Hq.out]; rfl), hB2⟩
            case measure => simp [intOf]; omega
    · obtain rfl : k = n := by omega
      go_wp2
      go_ret
      exact ⟨_, rfl, qB, by have := Hs.out; rw [← Hn.out, List.take_length] at this; rw [this]; rfl⟩
end Go.Proofs.YtilmeffmdgcblaaDoor
/- The reference's Bytes, at whatever lists. -/
namespace Go.Proofs.YtilmeffmdgcblaaDoor
open Go Go.RowKit
set_option maxRecDepth 8000
set_option linter.all false
end Go.Proofs.YtilmeffmdgcblaaDoor
/- Slices compared and cloned. -/
namespace Go.Proofs.YtilmeffmdgcblaaDoor
open Go Go.RowKit
set_option maxRecDepth 8000
set_option linter.all false
theorem strEq2 (l m : List UInt8) : (l == m) = decide (l = m) := by
  by_cases h : l = m
  · subst h; simp
  · simp [h]
set_option maxHeartbeats 400000 in
theorem BEqual_cv (v1 v2 : Value) (l m : List UInt8) (w : World) (h1 : RdV w [] v1 l) (h2 : RdV w [] v2 m) : Cv 44 #[v1, v2] w (.eq (.bool (decide (l = m)))) := by
  unfold Cv
  have k1 := conv_rd h1
  have k2 := conv_rd h2
  clear h1 h2
  rw [← strEq2]
  go_enter Tryd.func44, Tryd.ntmps44
  go_wp2
  go_ret
  exact ⟨_, rfl, NewT.refl _, rfl⟩
theorem pairs_ext {l m : List (Int × Int)} {n : Nat} (hl : l.length = n) (hm : m.length = n) (h : ∀ i, i < n → l.getD i (0, 0) = m.getD i (0, 0)) : l = m := by
  apply List.ext_getElem (by omega)
  intro i h1 h2
  have := h i (by omega)
  simpa [List.getD, h1, h2] using this
set_option maxHeartbeats 1000000 in
theorem SlEq_cv (v1 v2 : Value) (l m : List (Int × Int)) (w : World) (h1 : RdP w v1 l) (h2 : RdP w v2 m) : Cv 33 #[v1, v2] w (.eq (.bool (decide (l = m)))) := by
  unfold Cv
  obtain ⟨A1, c1, rfl, p1, p2, p3⟩ := h1
  obtain ⟨A2, c2, rfl, q1, q2, q3⟩ := h2
  unfold maxLen at p2 q2
  by_cases hne : l.length = m.length
  rotate_left
  · have hd : decide (l = m) = false := decide_eq_false fun h => hne (by rw [h])
    have ht : ((l.length : Int) != (m.length : Int)) = true := by simp; omega
    rw [hd]
    clear p3 q3 hd
    generalize l.length = n1 at *
    generalize m.length = n2 at *
    go_enter Tryd.func33, Tryd.ntmps33
    go_wp2
    go_ret
    exact ⟨_, rfl, NewT.refl _, rfl⟩
  have P3 := Lib.hid p3
  have Q3 := Lib.hid q3
  clear p3 q3
  generalize hn : l.length = n at *
  rw [← hne] at q1 Q3 ⊢
  have Hn := Lib.hid hn
  have Hm := Lib.hid hne
  clear hn hne
  go_enter Tryd.func33, Tryd.ntmps33
  go_wp2
  go_loopw [13] (fun i wr => ∃ k : Nat, k ≤ n ∧ i = .int .i64 k ∧ Hid (∀ i, i < k → l.getD i (0, 0) = m.getD i (0, 0)) ∧ Below w.heap.size w wr) (fun i _ => n - (intOf i).toNat)
  case atStart => exact ⟨0, by omega, rfl, Lib.hid (fun i hi => by omega), Below.refl _ _⟩
  case round =>
    obtain ⟨k, hk, rfl, Hs, qB⟩ := hrel
    by_cases hlt : k < n
    · obtain ⟨b1, o1, rfl, hc1⟩ := P3.out (by omega)
      obtain ⟨b2, o2, rfl, hc2⟩ := Q3.out (by omega)
      obtain ⟨j0, j1⟩ := hc1 k hlt
      obtain ⟨i0, i1⟩ := hc2 k hlt
      have k0 := (qB.cell (p := ⟨b1, o1 + 2 * k, none⟩) (World.block_lt_of_cell? _ _ j0)).trans j0
      have k1 := (qB.cell (p := ⟨b1, o1 + 2 * k + 1, none⟩) (World.block_lt_of_cell? _ _ j1)).trans j1
      have e0 := (qB.cell (p := ⟨b2, o2 + 2 * k, none⟩) (World.block_lt_of_cell? _ _ i0)).trans i0
      have e1 := (qB.cell (p := ⟨b2, o2 + 2 * k + 1, none⟩) (World.block_lt_of_cell? _ _ i1)).trans i1
      have Hno : Hid (l.getD k (0, 0) ≠ m.getD k (0, 0) → l ≠ m) := Lib.hid (fun h e => h (by rw [e]))
      have Hnx : Hid (l.getD k (0, 0) = m.getD k (0, 0) → ∀ i, i < k + 1 → l.getD i (0, 0) = m.getD i (0, 0)) := Lib.hid (fun h i hi => by
        rcases Nat.lt_succ_iff_lt_or_eq.1 hi with h1 | rfl
        · exact Hs.out i h1
        · exact h)
      clear hc1 hc2 j0 j1 i0 i1
      generalize l.getD k (0, 0) = s at k0 k1 Hno Hnx
      generalize m.getD k (0, 0) = t at e0 e1 Hno Hnx
      have it : (k : Int) < (n : Int) := by omega
      by_cases hq : s = t
      · go_upto_region 6 with fail
        generalize wr = W6 at *
        refine wp_region_rely (NewT) [SV.eq (.slice (some ⟨b1, o1, none⟩) n c1), SV.eq (.int .i64 ((k : Int))), SV.eq (.pointer (some ⟨b1, o1 + 2 * k, none⟩)), SV.eq (.agg (rowA 2 (stepF s))), SV.eq (.slice (some ⟨b2, o2, none⟩) n c2), SV.eq (.int .i64 ((k : Int))), SV.eq (.pointer (some ⟨b2, o2 + 2 * k, none⟩)), SV.eq (.agg (rowA 2 (stepF t)))] [([(0, none)], none), ([(5, none)], none), ([(16, some 0), (17, some 1)], none), ([(18, some 2)], none), ([(1, none)], none), ([(5, none)], none), ([(20, some 4), (21, some 5)], none), ([(22, some 6)], none)] 26 rfl (by kernel_rfl) rfl (by kernel_rfl) (by kernel_rfl) rfl NewT.trans (NewT.drew _) (Nat.le_of_ble_eq_true rfl) ⟨?_, ?_, ?_, ?_, ?_, ?_, ?_, ?_, trivial⟩ ?_
        · exact fun a wx hT hF K hK => rely_wp rfl (opr_move (.inl rfl) (hK _ _ (NewT.refl _) hF.1))
        · exact fun a wx hT hF K hK => rely_wp rfl (opr_move (.inl rfl) (hK _ _ (NewT.refl _) hF.1))
        · exact fun a wx hT hF K hK => rely_wp rfl (opr_idxS hlt rfl hF.1 hF.2.1 (hK _ _ (NewT.refl _) rfl))
        · exact fun a wx hT hF K hK => rely_wp rfl (opr_ld2 ((hT.out.cell (World.block_lt_of_cell? _ _ k0)).trans k0) ((hT.out.cell (World.block_lt_of_cell? _ _ k1)).trans k1) rfl hF.1 (hK _ _ (NewT.refl _) rfl))
        · exact fun a wx hT hF K hK => rely_wp rfl (opr_move (.inl rfl) (hK _ _ (NewT.refl _) hF.1))
        · exact fun a wx hT hF K hK => rely_wp rfl (opr_move (.inl rfl) (hK _ _ (NewT.refl _) hF.1))
        · exact fun a wx hT hF K hK => rely_wp rfl (opr_idxS hlt rfl hF.1 hF.2.1 (hK _ _ (NewT.refl _) rfl))
        · exact fun a wx hT hF K hK => rely_wp rfl (opr_ld2 ((hT.out.cell (World.block_lt_of_cell? _ _ e0)).trans e0) ((hT.out.cell (World.block_lt_of_cell? _ _ e1)).trans e1) rfl hF.1 (hK _ _ (NewT.refl _) rfl))
        · intro wy hT2
          iterate 8 (intro u h; obtain rfl := Eq.symm (h (by simp)); clear h)
          refine relyEnd_nil rfl ?_
          simp only [Act.put, List.setIfInBounds_toArray, List.set_cons_zero, List.set_cons_succ]
          refine opr_neqS (b := false) (by simp [hq]) rfl rfl rfl ?_
          go_simp
          go_wp2
          go_roundw
          case rel => exact ⟨k + 1, by omega, by go_num, Lib.hid (Hnx.out hq), qB.trans (hT2.out.mono qB.size)⟩
          case measure => simp [intOf]; omega
      · go_upto_region 6 with fail
        generalize wr = W6 at *
        refine wp_region_rely (NewT) [SV.eq (.slice (some ⟨b1, o1, none⟩) n c1), SV.eq (.int .i64 ((k : Int))), SV.eq (.pointer (some ⟨b1, o1 + 2 * k, none⟩)), SV.eq (.agg (rowA 2 (stepF s))), SV.eq (.slice (some ⟨b2, o2, none⟩) n c2), SV.eq (.int .i64 ((k : Int))), SV.eq (.pointer (some ⟨b2, o2 + 2 * k, none⟩)), SV.eq (.agg (rowA 2 (stepF t)))] [([(0, none)], none), ([(5, none)], none), ([(16, some 0), (17, some 1)], none), ([(18, some 2)], none), ([(1, none)], none), ([(5, none)], none), ([(20, some 4), (21, some 5)], none), ([(22, some 6)], none)] 26 rfl (by kernel_rfl) rfl (by kernel_rfl) (by kernel_rfl) rfl NewT.trans (NewT.drew _) (Nat.le_of_ble_eq_true rfl) ⟨?_, ?_, ?_, ?_, ?_, ?_, ?_, ?_, trivial⟩ ?_
        · exact fun a wx hT hF K hK => rely_wp rfl (opr_move (.inl rfl) (hK _ _ (NewT.refl _) hF.1))
        · exact fun a wx hT hF K hK => rely_wp rfl (opr_move (.inl rfl) (hK _ _ (NewT.refl _) hF.1))
        · exact fun a wx hT hF K hK => rely_wp rfl (opr_idxS hlt rfl hF.1 hF.2.1 (hK _ _ (NewT.refl _) rfl))
        · exact fun a wx hT hF K hK => rely_wp rfl (opr_ld2 ((hT.out.cell (World.block_lt_of_cell? _ _ k0)).trans k0) ((hT.out.cell (World.block_lt_of_cell? _ _ k1)).trans k1) rfl hF.1 (hK _ _ (NewT.refl _) rfl))
        · exact fun a wx hT hF K hK => rely_wp rfl (opr_move (.inl rfl) (hK _ _ (NewT.refl _) hF.1))
        · exact fun a wx hT hF K hK => rely_wp rfl (opr_move (.inl rfl) (hK _ _ (NewT.refl _) hF.1))
        · exact fun a wx hT hF K hK => rely_wp rfl (opr_idxS hlt rfl hF.1 hF.2.1 (hK _ _ (NewT.refl _) rfl))
        · exact fun a wx hT hF K hK => rely_wp rfl (opr_ld2 ((hT.out.cell (World.block_lt_of_cell? _ _ e0)).trans e0) ((hT.out.cell (World.block_lt_of_cell? _ _ e1)).trans e1) rfl hF.1 (hK _ _ (NewT.refl _) rfl))
        · intro wy hT2
          iterate 8 (intro u h; obtain rfl := Eq.symm (h (by simp)); clear h)
          refine relyEnd_nil rfl ?_
          simp only [Act.put, List.setIfInBounds_toArray, List.set_cons_zero, List.set_cons_succ]
          refine opr_neqS (b := true) (by simp [hq]) rfl rfl rfl ?_
          go_simp
          go_wp2
          go_ret
          exact ⟨_, rfl, qB.trans (hT2.out.mono qB.size), by rw [decide_eq_false (Hno.out hq)]; rfl⟩
    · obtain rfl : k = n := by omega
      go_wp2
      go_ret
      exact ⟨_, rfl, qB, by rw [decide_eq_true (pairs_ext Hn.out Hm.out.symm Hs.out)]; rfl⟩
end Go.Proofs.YtilmeffmdgcblaaDoor
