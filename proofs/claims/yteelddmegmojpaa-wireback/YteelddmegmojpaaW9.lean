/- A reader reads a hash: take[api.Hash], Hash. -/
import Derived.Test.YteelddmegmojpaaW8
namespace Go.Proofs.Yteelddmegmojpaa
open Go Go.RowKit

/-- Bytes read as a hash: it, how many bytes it has, the error. -/
def goH (l : List UInt8) : (Nat → UInt8) × Nat × Nat := if l.length < 32 then (fun _ => 0, 0, 3) else (bAt l, 32, 0)
theorem results_row3 {P : Program} {w : World} {b : Nat} {t : TypeId} {n : Nat} {f : Nat → Value} {e : TypeId} {m : Nat} {fn : Func} {p u v : Tmp} {ty : TypeId} (hf : fn.results = #[.cell p ty, .tmp u, .tmp v]) (tmps : Array Value) (hp : tmps.getD p undef = .pointer (some ⟨b, 0, none⟩))
    (h : w.rowIs b t n f) (hu : P.underlying ty = some (.array m e)) (hi : (P.info? ty).map (·.size) = some n) : (results fn tmps).run P w = .ok (.tuple #[.agg (rowA n f), tmps.getD u undef, tmps.getD v undef]) w := by
  have := load_row (P := P) h hu hi
  have hp' : tmps[p]?.getD undef = .pointer (some ⟨b, 0, none⟩) := by simpa using hp
  simp [results, hf, hp', asAddr, this]
set_option maxHeartbeats 2000000 in
theorem hash1_any (v : Value) (l : List UInt8) (L : List Nat) (w : World) (h : RdV w L v l) :
    Calls Try.prog 35 #[v] w fun ev w' => ev = .returned (.tuple #[.agg (rowA 32 (bF (goH l).1)), .int .i64 ((goH l).2.1 : Int), .int .i64 ((goH l).2.2 : Int)]) ∧ NewT w w' := by
  have H := Lib.hid h
  obtain ⟨A, cap, rfl, h1, h2, h3⟩ := h
  unfold maxLen at h2
  have r0 := (rowIs_box w 24 32 (bF fun _ => 0)).alloc (.cells (rowA 32 (bF fun _ => 0)) 24)
  have r1 := rowIs_box (w.alloc (.cells (rowA 32 (bF fun _ => 0)) 24)) 24 32 (bF fun _ => 0)
  have hB : Below w.heap.size w ((w.alloc (.cells (rowA 32 (bF fun _ => 0)) 24)).alloc (.cells (rowA 32 (bF fun _ => 0)) 24)) :=
    ((Below.refl _ w).alloc (Nat.le_refl _) _).alloc (by simp) _
  rw [World.size_alloc] at r1
  unfold goH
  by_cases hs : l.length < 32
  · rw [if_pos hs]
    clear h3
    have hR := rangeAt_row r1
    go_enter Try.func35, Try.ntmps35
    go_wp2_with (first
      | (refine wpList_load_mid rfl 24 (.tmp 5) rfl (w.heap.size + 1) 0 rfl (rowA 32 (bF fun _ => 0)).toList _ hR Try.underlying24 rfl (by rw [rowA_toList]; simpa using info31) ?_)
      | (refine wpList_store_mid rfl 24 (.tmp 2) (.tmp 9) rfl w.heap.size 0 (rowA 32 (bF fun _ => 0)) rfl rfl (by rw [rowA_size]; exact there_row r0) (by rw [rowA_size]; exact info31) (rowA_one _ _ fun _ => rfl) ?_))
    exact bodyPost_ret (results_row3 rfl _ rfl (rowIs_setAll r0 (bF fun _ => 0)) Try.underlying24 info31) rfl ⟨rfl, below_setCells _ (Nat.le_refl _) _ _ _ hB⟩
  · rw [if_neg hs]
    obtain ⟨b, o, rfl, _, hc⟩ := h3 (by omega)
    clear h3
    have hbw : b < w.heap.size := World.block_lt_of_cell? _ _ (hc 0 (by omega))
    have hR : ((w.alloc (.cells (rowA 32 (bF fun _ => 0)) 24)).alloc (.cells (rowA 32 (bF fun _ => 0)) 24)).rangeAt b o (rowA 32 (bF (bAt l))).toList := fun j u hj => by
      rw [rowA_toList] at hj
      have hj32 : j < 32 := by have := (List.getElem?_eq_some_iff.1 hj).1; simpa using this
      simp [hj32] at hj
      subst hj
      exact (hB.cell (p := ⟨b, o + j, none⟩) hbw).trans (hc j (by omega))
    clear hc
    have hat : ∀ W : World, (Instr.arrayAt 24 (.slice (some ⟨b, o, none⟩) 32 cap)).run Try.prog W = .ok (.pointer (some ⟨b, o, none⟩)) W := fun W => by
      simp [Instr.arrayAt, run_underlying Try.underlying24]
    go_enter Try.func35, Try.ntmps35
    go_wp2_with (first
      | (refine wpList_load_mid rfl 24 (.tmp 12) rfl b o rfl (rowA 32 (bF (bAt l))).toList _ hR Try.underlying24 rfl (by rw [rowA_toList]; simpa using info31) ?_)
      | (refine wpList_store_mid rfl 24 (.tmp 2) (.tmp 13) rfl w.heap.size 0 (rowA 32 (bF (bAt l))) rfl rfl (by rw [rowA_size]; exact there_row r0) (by rw [rowA_size]; exact info31) (rowA_one _ _ fun _ => rfl) ?_))
    exact bodyPost_ret (results_row3 rfl _ rfl (rowIs_setAll r0 (bF (bAt l))) Try.underlying24 info31) rfl ⟨rfl, below_setCells _ (Nat.le_refl _) _ _ _ hB⟩
theorem rdV_none {W W' : World} {L L' : List Nat} {v : Value} (h : RdV W L v []) : RdV W' L' v [] := by
  obtain ⟨A, c, hv, h1, h2, _⟩ := h
  exact ⟨A, c, hv, h1, h2, fun h => absurd h (by simp)⟩
/-- A whole array is stored into a row. -/
theorem wpList_store_row {P : Program} {ops : Array Oper} {rest : List Oper} {op : Oper} {a : Act} {w : World} {Q : Exit → Act → World → Prop} (hgd : op.guard = none) (ty : TypeId) (x y : Operand) (ho : op.op = .store ty x y)
    (g n : Nat) (D : Nat → UInt8) (hx : a.eval x = .pointer (some ⟨g, 0, none⟩)) (hy : a.eval y = .agg (rowA n (bF D))) {t' : TypeId} {f0 : Nat → Value} (hr : w.rowIs g t' n f0) (hi : (P.info? ty).map (·.size) = some n)
    (h : ∀ w', KeepBut [g] w w' → (∀ B, B ≤ g → Below B w w') → w'.rowIs g t' n (bF D) → wpList P ops Q rest (a.put op.dst undef) w') : wpList P ops Q (op :: rest) a w :=
  wpList_store_mid hgd ty x y ho g 0 (rowA n (bF D)) hx hy (by rw [rowA_size]; exact there_row hr) (by rw [rowA_size]; exact hi) (rowA_one _ _ fun _ => rfl)
    (h _ (KeepBut.setCells (by simp) _ _ _) (fun B hB => below_setCells g hB _ _ _ (Below.refl _ _)) (rowIs_setAll hr (bF D)))
/-- What a hash that is asked for turns a reader that isn't bad to. -/
def outH (l : List UInt8) : (Nat → UInt8) × List UInt8 × Nat := if l.length < 32 then (fun _ => 0, [], 3) else (bAt l, l.drop 32, 0)
/-- Blocks that came behind W are written, and R: to whoever looks from W on, a step that writes R alone. -/
theorem RT.late {R g : Nat} {W w w' : World} (h : RT R W w) (hg : W.heap.size ≤ g) (hR : R < W.heap.size) (hK : KeepBut [g] w w') (hB : ∀ B, B ≤ g → Below B w w') : RT R W w' :=
  ⟨h.below.trans (hB R (by omega)), Nat.le_trans h.keep.1 hK.1, fun k o hk ho hc => hK.2 k o (by have := (Array.getElem?_eq_some_iff.1 ho).1; simp; omega) (h.keep.2 k o hk ho hc) hc⟩
set_option maxHeartbeats 2000000 in
theorem takeH_good (R : Nat) (l : List UInt8) (w : World) (h : Rdr w R l 0) :
    Calls Try.prog 34 #[.pointer (some ⟨R, 0, none⟩), .func (.func 35) #[] #[]] w fun ev w' => ev = .returned (.agg (rowA 32 (bF (outH l).1))) ∧ RT R w w' ∧ Rdr w' R (outH l).2.1 ((outH l).2.2 : Int) := by
  have hR := h.lt
  have hw0 : NewT w ((w.alloc (.cells (rowA 32 (bF fun _ => 0)) 24)).alloc (.cells (rowA 32 (bF fun _ => 0)) 24)) := ((Below.refl _ w).alloc (Nat.le_refl _) _).alloc (by simp) _
  have z0 := (rowIs_box w 24 32 (bF fun _ => 0)).alloc (.cells (rowA 32 (bF fun _ => 0)) 24)
  have z1 := rowIs_box (w.alloc (.cells (rowA 32 (bF fun _ => 0)) 24)) 24 32 (bF fun _ => 0)
  rw [World.size_alloc] at z1
  have Hs0 : Hid (((w.alloc (.cells (rowA 32 (bF fun _ => 0)) 24)).alloc (.cells (rowA 32 (bF fun _ => 0)) 24)).heap.size = w.heap.size + 1 + 1) := Lib.hid (by simp)
  have h0 := h.new hw0
  have H := Lib.hid h
  have H0 := Lib.hid h0
  clear h h0
  obtain ⟨v, r1, rs, _⟩ := H.out
  have r2 := rs.rd
  unfold outH
  by_cases hs : l.length < 32
  · rw [if_pos hs]
    have hg : goH l = (fun _ => 0, 0, 3) := by rw [goH, if_pos hs]
    have Hg := Lib.hid hg
    clear hg
    obtain ⟨A, cap, rfl, hc1, hc2, _⟩ := id r2
    go_enter Try.func34, Try.ntmps34
    go_wp2_with (first
      | (go_at_call 24; refine (Bad_any R l 0 _ H0.out).eq.mono ?_; rintro _ w1 ⟨rfl, hB1⟩; have hN1 := NewT.trans _ _ _ hw0 hB1; have r1' := NewT.row hN1 r1; have r2' := NewT.rd hN1 r2; have c0 := r1'.cell (i := 0) (by omega); simp only [if_true] at c0)
      | (go_at_call 35; refine (hash1_any _ l [R] w1 r2').mono ?_; rintro _ w2 ⟨rfl, hB2⟩; rw [Hg.out]; simp only; have hN2 := NewT.trans _ _ _ hN1 hB2)
      | (refine wpList_store_row rfl 24 (.tmp 6) (.tmp 20) rfl w2.heap.size 32 (fun _ => 0) rfl rfl (rowIs_box w2 24 32 (bF fun _ => 0)) info31 ?_; intro w3 hK3 hB3 q6; have hN3 : NewT w w3 := NewT.trans _ _ _ hN2 (NewT.of ((NewT.alloc w2 _).out.trans (hB3 _ (Nat.le_refl _))));
         have hE3 : Below (w.heap.size + 1 + 1) w2 w3 := ((NewT.alloc w2 _).out.mono (by have := hB1.size; have := hB2.size; simp at *; omega)).trans (hB3 _ (by have := hB1.size; have := hB2.size; simp at *; omega)))
      | (go_at_call 25; refine (Fail_good R l 3 (by decide) w3 (H.out.new hN3)).mono ?_; rintro _ w4 ⟨rfl, hT4, hR4⟩;
         have y0 := hT4.row (by omega) (rowIs_below (NewT.row (NewT.trans _ _ _ hB1 hB2) z0) hE3 (by omega)); have y1 := hT4.row (by omega) (rowIs_below (NewT.row (NewT.trans _ _ _ hB1 hB2) z1) hE3 (by omega)))
      | (refine wpList_load_mid rfl 24 (.tmp 5) rfl (w.heap.size + 1) 0 rfl (rowA 32 (bF fun _ => 0)).toList _ (rangeAt_row y1) Try.underlying24 rfl (by rw [rowA_toList]; simpa using info31) ?_)
      | (refine wpList_store_row rfl 24 (.tmp 4) (.tmp 28) rfl w.heap.size 32 (fun _ => 0) rfl rfl y0 info31 ?_; intro w5 hK5 hB5 q5))
    refine bodyPost_ret (results_row rfl _ rfl q5 Try.underlying24 info31) rfl ⟨rfl, RT.late (RT.trans _ _ _ (RT.new hR hN3) hT4) (Nat.le_refl _) hR hK5 hB5, ?_⟩
    obtain ⟨v4, k1, k2, k3⟩ := hR4
    exact (show Rdr w4 R [] 3 from ⟨v4, k1, k2, k3⟩).keep (by simp; omega) hK5
  · rw [if_neg hs]
    have hg : goH l = (bAt l, 32, 0) := by rw [goH, if_neg hs]
    obtain ⟨k, hk⟩ : ∃ k : Nat, 32 = k := ⟨_, rfl⟩
    have hkl : k ≤ l.length := by omega
    have hl0 : 0 < l.length := by omega
    have eo : ((bAt l, l.drop 32, 0) : (Nat → UInt8) × List UInt8 × Nat) = (bAt l, l.drop k, 0) := by rw [hk]
    have eg : goH l = (bAt l, k, 0) := by rw [hg, hk]
    rw [eo]
    have Hg := Lib.hid eg
    clear hg eg eo hk hs
    obtain ⟨A, cap, rfl, hc1, hc2, hA⟩ := id r2
    obtain ⟨b, o, rfl, _, _⟩ := hA (by omega)
    clear hA
    have hsl := slice_from (P := Try.prog) 22 5 Try.underlying22 info5s ⟨b, o, none⟩ l.length cap k (by omega)
    have hfr : Rest w R _ _ := fun L hL => rd_from (k := k) (rs L hL) (by omega)
    obtain ⟨ad, had⟩ : ∃ ad, (if cap = k then (⟨b, o, none⟩ : Addr) else (⟨b, o, none⟩ : Addr).add k) = ad := ⟨_, rfl⟩
    rw [had] at hsl hfr
    have Hfr := Lib.hid hfr
    generalize bAt l = D at Hg ⊢
    clear had hfr
    go_enter Try.func34, Try.ntmps34
    go_wp2_with (first
      | (go_at_call 24; refine (Bad_any R l 0 _ H0.out).eq.mono ?_; rintro _ w1 ⟨rfl, hB1⟩; have hN1 := NewT.trans _ _ _ hw0 hB1; have r1' := NewT.row hN1 r1; have r2' := NewT.rd hN1 r2; have c0 := r1'.cell (i := 0) (by omega); simp only [if_true] at c0)
      | (go_at_call 35; refine (hash1_any _ l [R] w1 r2').mono ?_; rintro _ w2 ⟨rfl, hB2⟩; rw [Hg.out]; simp only; have hN2 := NewT.trans _ _ _ hN1 hB2; have hC : w.heap.size + 1 + 1 ≤ w2.heap.size := (by have a1 := hB1.size; have a2 := hB2.size; rw [Hs0.out] at a1; omega))
      | (refine wpList_store_row rfl 24 (.tmp 6) (.tmp 20) rfl w2.heap.size 32 D rfl rfl (rowIs_box w2 24 32 (bF fun _ => 0)) info31 ?_; intro w3 hK3 hB3 q6; have hN3 : NewT w w3 := NewT.trans _ _ _ hN2 (NewT.of ((NewT.alloc w2 _).out.trans (hB3 _ (Nat.le_refl _))));
         have hE3 : Below (w.heap.size + 1 + 1) w2 w3 := ((NewT.alloc w2 _).out.mono hC).trans (hB3 _ hC);
         have r3 := NewT.row hN3 r1; have c3 := r3.cell (i := 0) (by omega); have f3 := r3.frozen 0; simp only [if_true] at c3;
         have y0 := rowIs_below (NewT.row (NewT.trans _ _ _ hB1 hB2) z0) hE3 (by omega))
      | (refine wpList_load_mid rfl 24 (.tmp 6) rfl w2.heap.size 0 rfl (rowA 32 (bF D)).toList _ (rangeAt_row (q6.setOther (a := ⟨R, 0, none⟩) (by simp; omega) _)) Try.underlying24 rfl (by rw [rowA_toList]; simpa using info31) ?_)
      | (refine wpList_store_row rfl 24 (.tmp 4) (.tmp 38) rfl w.heap.size 32 D rfl rfl (y0.setOther (a := ⟨R, 0, none⟩) (by simp; omega) _) info31 ?_; intro w5 hK5 hB5 q5))
    refine bodyPost_ret (results_row rfl _ rfl q5 Try.underlying24 info31) rfl ⟨rfl, RT.late (RT.trans _ _ _ (RT.new hR hN3) (RT.setCell w3 0 _)) (Nat.le_refl _) hR hK5 hB5, ?_⟩
    refine ⟨.slice (some ad) (l.length - k) (cap - k), hK5.row (by simp; omega) ((r3.set 0 _).congr fun i hi => ?_), ?_, fun h => absurd rfl h⟩
    · by_cases h0 : i = 0
      · simp [h0]
      · simp [h0]
    · exact ((Hfr.out.new hN3).keep (G := [R]) (by simp) (KeepBut.setCell (a := ⟨R, 0, none⟩) (by simp) _)).keep (by simp; omega) hK5
set_option maxHeartbeats 1000000 in
theorem takeH_bad (R : Nat) (l : List UInt8) (e : Int) (he : e ≠ 0) (w : World) (h : Rdr w R l e) :
    Calls Try.prog 34 #[.pointer (some ⟨R, 0, none⟩), .func (.func 35) #[] #[]] w fun ev w' => ev = .returned (.agg (rowA 32 (bF fun _ => 0))) ∧ RT R w w' ∧ Rdr w' R l e := by
  have hR := h.lt
  have hw0 : NewT w ((w.alloc (.cells (rowA 32 (bF fun _ => 0)) 24)).alloc (.cells (rowA 32 (bF fun _ => 0)) 24)) := ((Below.refl _ w).alloc (Nat.le_refl _) _).alloc (by simp) _
  have z0 := (rowIs_box w 24 32 (bF fun _ => 0)).alloc (.cells (rowA 32 (bF fun _ => 0)) 24)
  have z1 := rowIs_box (w.alloc (.cells (rowA 32 (bF fun _ => 0)) 24)) 24 32 (bF fun _ => 0)
  rw [World.size_alloc] at z1
  have h0 := h.new hw0
  have H := Lib.hid h
  have H0 := Lib.hid h0
  have hd : (e != 0) = true := by simpa using he
  have He := Lib.hid he
  clear h h0 he
  go_enter Try.func34, Try.ntmps34
  go_wp2_with (first
    | (go_at_call 24; refine (Bad_any R l e _ H0.out).eq.mono ?_; rintro _ w1 ⟨rfl, hB1⟩; have y0 := NewT.row hB1 z0; have y1 := NewT.row hB1 z1)
    | (refine wpList_load_mid rfl 24 (.tmp 5) rfl (w.heap.size + 1) 0 rfl (rowA 32 (bF fun _ => 0)).toList _ (rangeAt_row y1) Try.underlying24 rfl (by rw [rowA_toList]; simpa using info31) ?_)
    | (refine wpList_store_row rfl 24 (.tmp 4) (.tmp 12) rfl w.heap.size 32 (fun _ => 0) rfl rfl y0 info31 ?_; intro w5 hK5 hB5 q5))
  refine bodyPost_ret (results_row rfl _ rfl q5 Try.underlying24 info31) rfl ⟨rfl, RT.late (RT.new hR (NewT.trans _ _ _ hw0 hB1)) (Nat.le_refl _) hR hK5 hB5, ?_⟩
  exact (H.out.new (NewT.trans _ _ _ hw0 hB1)).keep (by simp; omega) hK5
set_option maxHeartbeats 400000 in
theorem RHash_good (R : Nat) (l : List UInt8) (w : World) (h : Rdr w R l 0) :
    Calls Try.prog 22 #[.pointer (some ⟨R, 0, none⟩)] w fun ev w' => ev = .returned (.agg (rowA 32 (bF (outH l).1))) ∧ RT R w w' ∧ Rdr w' R (outH l).2.1 ((outH l).2.2 : Int) := by
  have hR := h.lt
  have z0 := rowIs_box w 24 32 (bF fun _ => 0)
  have hN : NewT w (w.alloc (.cells (rowA 32 (bF fun _ => 0)) 24)) := NewT.alloc _ _
  have H := Lib.hid (h.new hN)
  clear h
  go_enter Try.func22, Try.ntmps22
  go_wp2_with (first
    | (go_at_call 34; refine (takeH_good R l _ H.out).mono ?_; rintro _ w1 ⟨rfl, hT, hr⟩; have y0 := hT.row (by omega) z0)
    | (refine wpList_store_row rfl 24 (.tmp 2) (.tmp 4) rfl w.heap.size 32 _ rfl rfl y0 info31 ?_; intro w5 hK5 hB5 q5))
  refine bodyPost_ret (results_row rfl _ rfl q5 Try.underlying24 info31) rfl ⟨rfl, RT.late (RT.trans _ _ _ (RT.new hR hN) hT) (Nat.le_refl _) hR hK5 hB5, ?_⟩
  exact hr.keep (by simp; omega) hK5
set_option maxHeartbeats 400000 in
theorem RHash_bad (R : Nat) (l : List UInt8) (e : Int) (he : e ≠ 0) (w : World) (h : Rdr w R l e) :
    Calls Try.prog 22 #[.pointer (some ⟨R, 0, none⟩)] w fun ev w' => ev = .returned (.agg (rowA 32 (bF fun _ => 0))) ∧ RT R w w' ∧ Rdr w' R l e := by
  have hR := h.lt
  have z0 := rowIs_box w 24 32 (bF fun _ => 0)
  have hN : NewT w (w.alloc (.cells (rowA 32 (bF fun _ => 0)) 24)) := NewT.alloc _ _
  have H := Lib.hid (h.new hN)
  have He := Lib.hid he
  clear h he
  go_enter Try.func22, Try.ntmps22
  go_wp2_with (first
    | (go_at_call 34; refine (takeH_bad R l e He.out _ H.out).mono ?_; rintro _ w1 ⟨rfl, hT, hr⟩; have y0 := hT.row (by omega) z0)
    | (refine wpList_store_row rfl 24 (.tmp 2) (.tmp 4) rfl w.heap.size 32 _ rfl rfl y0 info31 ?_; intro w5 hK5 hB5 q5))
  refine bodyPost_ret (results_row rfl _ rfl q5 Try.underlying24 info31) rfl ⟨rfl, RT.late (RT.trans _ _ _ (RT.new hR hN) hT) (Nat.le_refl _) hR hK5 hB5, ?_⟩
  exact hr.keep (by simp; omega) hK5
end Go.Proofs.Yteelddmegmojpaa
