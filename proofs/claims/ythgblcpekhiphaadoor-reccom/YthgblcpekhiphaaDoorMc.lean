/- A reader reads a hash: take[api.Hash], Hash. -/
import Derived.Test.YthgblcpekhiphaaDoorMb
import Derived.Lib.SliceRun
import Derived.Test.YthgblcpekhiphaaDoorMa
namespace Go.Proofs.YthgblcpekhiphaaDoor
open Go Go.RowKit
set_option maxRecDepth 8000

/-- Bytes read as a hash: it, how many bytes it has, the error. -/
def goH (l : List UInt8) : (Nat → UInt8) × Nat × Nat := if l.length < 32 then (fun _ => 0, 0, 3) else (bAt l, 32, 0)
theorem results_row3 {P : Program} {w : World} {b : Nat} {t : TypeId} {n : Nat} {f : Nat → Value} {e : TypeId} {m : Nat} {fn : Func} {p u v : Tmp} {ty : TypeId} (hf : fn.results = #[.cell p ty, .tmp u, .tmp v]) (tmps : Array Value) (hp : tmps.getD p undef = .pointer (some ⟨b, 0, none⟩))
    (h : w.rowIs b t n f) (hu : P.underlying ty = some (.array m e)) (hi : (P.info? ty).map (·.size) = some n) : (results fn tmps).run P w = .ok (.tuple #[.agg (rowA n f), tmps.getD u undef, tmps.getD v undef]) w := by
  have := load_row (P := P) h hu hi
  have hp' : tmps[p]?.getD undef = .pointer (some ⟨b, 0, none⟩) := by simpa using hp
  simp [results, hf, hp', asAddr, this]
set_option maxHeartbeats 2000000 in
theorem hash1_any (v : Value) (l : List UInt8) (L : List Nat) (w : World) (h : RdV w L v l) :
    Calls Tryd.prog 92 #[v] w fun ev w' => ev = .returned (.tuple #[.agg (rowA 32 (bF (goH l).1)), .int .i64 ((goH l).2.1 : Int), .int .i64 ((goH l).2.2 : Int)]) ∧ NewT w w' := by
  have H := Lib.hid h
  obtain ⟨A, cap, rfl, h1, h2, h3⟩ := h
  unfold maxLen at h2
  have r0 := (rowIs_box w 23 32 (bF fun _ => 0)).alloc (.cells (rowA 32 (bF fun _ => 0)) 23)
  have r1 := rowIs_box (w.alloc (.cells (rowA 32 (bF fun _ => 0)) 23)) 23 32 (bF fun _ => 0)
  have hB : Below w.heap.size w ((w.alloc (.cells (rowA 32 (bF fun _ => 0)) 23)).alloc (.cells (rowA 32 (bF fun _ => 0)) 23)) :=
    ((Below.refl _ w).alloc (Nat.le_refl _) _).alloc (by simp) _
  rw [World.size_alloc] at r1
  unfold goH
  by_cases hs : l.length < 32
  · rw [if_pos hs]
    clear h3
    have hR := rangeAt_row r1
    go_enter Tryd.func92, Tryd.ntmps92
    go_wp2_with (first
      | (refine wpList_load_mid rfl 23 (.tmp 5) rfl (w.heap.size + 1) 0 rfl (rowA 32 (bF fun _ => 0)).toList _ hR Tryd.underlying23 rfl (by rw [rowA_toList]; simpa using info31) ?_)
      | (refine wpList_store_mid rfl 23 (.tmp 2) (.tmp 9) rfl w.heap.size 0 (rowA 32 (bF fun _ => 0)) rfl rfl (by rw [rowA_size]; exact there_row r0) (by rw [rowA_size]; exact info31) (rowA_one _ _ fun _ => rfl) ?_))
    exact bodyPost_ret (results_row3 rfl _ rfl (rowIs_setAll r0 (bF fun _ => 0)) Tryd.underlying23 info31) rfl ⟨rfl, below_setCells _ (Nat.le_refl _) _ _ _ hB⟩
  · rw [if_neg hs]
    obtain ⟨b, o, rfl, _, hc⟩ := h3 (by omega)
    clear h3
    have hbw : b < w.heap.size := World.block_lt_of_cell? _ _ (hc 0 (by omega))
    have hR : ((w.alloc (.cells (rowA 32 (bF fun _ => 0)) 23)).alloc (.cells (rowA 32 (bF fun _ => 0)) 23)).rangeAt b o (rowA 32 (bF (bAt l))).toList := fun j u hj => by
      rw [rowA_toList] at hj
      have hj32 : j < 32 := by have := (List.getElem?_eq_some_iff.1 hj).1; simpa using this
      simp [hj32] at hj
      subst hj
      exact (hB.cell (p := ⟨b, o + j, none⟩) hbw).trans (hc j (by omega))
    clear hc
    have hat : ∀ W : World, (Instr.arrayAt 23 (.slice (some ⟨b, o, none⟩) 32 cap)).run Tryd.prog W = .ok (.pointer (some ⟨b, o, none⟩)) W := fun W => by
      simp [Instr.arrayAt, run_underlying Tryd.underlying23]
    go_enter Tryd.func92, Tryd.ntmps92
    go_wp2_with (first
      | (refine wpList_load_mid rfl 23 (.tmp 12) rfl b o rfl (rowA 32 (bF (bAt l))).toList _ hR Tryd.underlying23 rfl (by rw [rowA_toList]; simpa using info31) ?_)
      | (refine wpList_store_mid rfl 23 (.tmp 2) (.tmp 13) rfl w.heap.size 0 (rowA 32 (bF (bAt l))) rfl rfl (by rw [rowA_size]; exact there_row r0) (by rw [rowA_size]; exact info31) (rowA_one _ _ fun _ => rfl) ?_))
    exact bodyPost_ret (results_row3 rfl _ rfl (rowIs_setAll r0 (bF (bAt l))) Tryd.underlying23 info31) rfl ⟨rfl, below_setCells _ (Nat.le_refl _) _ _ _ hB⟩
theorem rdV_none {W W' : World} {L L' : List Nat} {v : Value} (h : RdV W L v []) : RdV W' L' v [] := by
  obtain ⟨A, c, hv, h1, h2, _⟩ := h
  exact ⟨A, c, hv, h1, h2, fun h => absurd h (by simp)⟩
/-- A whole array is stored into a row. -/
theorem wpList_store_row {P : Program} {ops : Array Oper} {rest : List Oper} {op : Oper} {a : Act} {w : World} {Q : Exit → Act → World → Prop} (hgd : op.guard = none) (ty : TypeId) (x y : Operand) (ho : op.op = .store ty x y)
    (g n : Nat) (D : Nat → UInt8) (hx : a.eval x = .pointer (some ⟨g, 0, none⟩)) (hy : a.eval y = .agg (rowA n (bF D))) {t' : TypeId} {f0 : Nat → Value} (hr : w.rowIs g t' n f0) (hi : (P.info? ty).map (·.size) = some n)
    (h : ∀ w', KeepBut [g] w w' → (∀ B, B ≤ g → Below B w w') → w'.rowIs g t' n (bF D) → wpList P ops Q rest (a.put op.dst undef) w') : wpList P ops Q (op :: rest) a w :=
  wpList_store_mid hgd ty x y ho g 0 (rowA n (bF D)) hx hy (by rw [rowA_size]; exact there_row hr) (by rw [rowA_size]; exact hi) (rowA_one _ _ fun _ => rfl)
    (h _ (KeepBut.setCells (by simp) _ _ _) (fun B hB => below_setCells g hB _ _ _ (Below.refl _ _)) (rowIs_setAll hr (bF D)))
/-- What a hash that is asked for turns a reader that isn't bad to. -/
def outH (l : List UInt8) : (Nat → UInt8) × List UInt8 × Nat := if l.length < 32 then (fun _ => 0, [], 3) else (bAt l, l.drop 32, 0)
/-- Blocks that came behind W are written, and R: to whoever looks from W on, a step that writes R alone. -/
theorem RT.late {R g : Nat} {W w w' : World} (h : RT R W w) (hg : W.heap.size ≤ g) (hR : R < W.heap.size) (hK : KeepBut [g] w w') (hB : ∀ B, B ≤ g → Below B w w') : RT R W w' :=
  ⟨h.below.trans (hB R (by omega)), Nat.le_trans h.keep.1 hK.1, fun k o hk ho hc => hK.2 k o (by have := (Array.getElem?_eq_some_iff.1 ho).1; simp; omega) (h.keep.2 k o hk ho hc) hc⟩
set_option maxHeartbeats 2000000 in
theorem takeH_good (R : Nat) (l : List UInt8) (w : World) (h : Rdr w R l 0) :
    Calls Tryd.prog 91 #[.pointer (some ⟨R, 0, none⟩), .func (.func 92) #[] #[]] w fun ev w' => ev = .returned (.agg (rowA 32 (bF (outH l).1))) ∧ RT R w w' ∧ Rdr w' R (outH l).2.1 ((outH l).2.2 : Int) := by
  have hR := h.lt
  have hw0 : NewT w ((w.alloc (.cells (rowA 32 (bF fun _ => 0)) 23)).alloc (.cells (rowA 32 (bF fun _ => 0)) 23)) := ((Below.refl _ w).alloc (Nat.le_refl _) _).alloc (by simp) _
  have z0 := (rowIs_box w 23 32 (bF fun _ => 0)).alloc (.cells (rowA 32 (bF fun _ => 0)) 23)
  have z1 := rowIs_box (w.alloc (.cells (rowA 32 (bF fun _ => 0)) 23)) 23 32 (bF fun _ => 0)
  rw [World.size_alloc] at z1
  have Hs0 : Hid (((w.alloc (.cells (rowA 32 (bF fun _ => 0)) 23)).alloc (.cells (rowA 32 (bF fun _ => 0)) 23)).heap.size = w.heap.size + 1 + 1) := Lib.hid (by simp)
  have h0 := h.new hw0
  have H := Lib.hid h
  have H0 := Lib.hid h0
  clear h h0
  obtain ⟨v, r1, rs, _⟩ := H.out
  have r2 := rs.rd
  unfold outH
  by_cases hs : l.length < 32
  · rw [if_pos hs]
    have hg : goH l = (fun _ => 0, 0, 3) := by rw [goH, if_pos hs]
    have Hg := Lib.hid hg
    clear hg
    obtain ⟨A, cap, rfl, hc1, hc2, _⟩ := id r2
    go_enter Tryd.func91, Tryd.ntmps91
    go_wp2_with (first
      | (go_at_call 47; refine (Bad_any R l 0 _ H0.out).eq.mono ?_; rintro _ w1 ⟨rfl, hB1⟩; have hN1 := NewT.trans _ _ _ hw0 hB1; have r1' := NewT.row hN1 r1; have r2' := NewT.rd hN1 r2; have c0 := r1'.cell (i := 0) (by omega); simp only [if_true] at c0)
      | (go_at_call 92; refine (hash1_any _ l [R] w1 r2').mono ?_; rintro _ w2 ⟨rfl, hB2⟩; rw [Hg.out]; simp only; have hN2 := NewT.trans _ _ _ hN1 hB2)
      | (refine wpList_store_row rfl 23 (.tmp 6) (.tmp 20) rfl w2.heap.size 32 (fun _ => 0) rfl rfl (rowIs_box w2 23 32 (bF fun _ => 0)) info31 ?_; intro w3 hK3 hB3 q6; have hN3 : NewT w w3 := NewT.trans _ _ _ hN2 (NewT.of ((NewT.alloc w2 _).out.trans (hB3 _ (Nat.le_refl _))));
         have hE3 : Below (w.heap.size + 1 + 1) w2 w3 := ((NewT.alloc w2 _).out.mono (by have := hB1.size; have := hB2.size; simp at *; omega)).trans (hB3 _ (by have := hB1.size; have := hB2.size; simp at *; omega)))
      | (go_at_call 46; refine (Fail_good R l 3 (by decide) w3 (H.out.new hN3)).mono ?_; rintro _ w4 ⟨rfl, hT4, hR4⟩;
         have y0 := hT4.row (by omega) (rowIs_below (NewT.row (NewT.trans _ _ _ hB1 hB2) z0) hE3 (by omega)); have y1 := hT4.row (by omega) (rowIs_below (NewT.row (NewT.trans _ _ _ hB1 hB2) z1) hE3 (by omega)))
      | (refine wpList_load_mid rfl 23 (.tmp 5) rfl (w.heap.size + 1) 0 rfl (rowA 32 (bF fun _ => 0)).toList _ (rangeAt_row y1) Tryd.underlying23 rfl (by rw [rowA_toList]; simpa using info31) ?_)
      | (refine wpList_store_row rfl 23 (.tmp 4) (.tmp 28) rfl w.heap.size 32 (fun _ => 0) rfl rfl y0 info31 ?_; intro w5 hK5 hB5 q5))
    refine bodyPost_ret (results_row rfl _ rfl q5 Tryd.underlying23 info31) rfl ⟨rfl, RT.late (RT.trans _ _ _ (RT.new hR hN3) hT4) (Nat.le_refl _) hR hK5 hB5, ?_⟩
    obtain ⟨v4, k1, k2, k3⟩ := hR4
    exact (show Rdr w4 R [] 3 from ⟨v4, k1, k2, k3⟩).keep (by simp; omega) hK5
  · rw [if_neg hs]
    have hg : goH l = (bAt l, 32, 0) := by rw [goH, if_neg hs]
    obtain ⟨k, hk⟩ : ∃ k : Nat, 32 = k := ⟨_, rfl⟩
    have hkl : k ≤ l.length := by omega
    have hl0 : 0 < l.length := by omega
    have eo : ((bAt l, l.drop 32, 0) : (Nat → UInt8) × List UInt8 × Nat) = (bAt l, l.drop k, 0) := by rw [hk]
    have eg : goH l = (bAt l, k, 0) := by rw [hg, hk]
    rw [eo]
    have Hg := Lib.hid eg
    clear hg eg eo hk hs
    obtain ⟨A, cap, rfl, hc1, hc2, hA⟩ := id r2
    obtain ⟨b, o, rfl, _, _⟩ := hA (by omega)
    clear hA
    have hsl := slice_from (P := Tryd.prog) 25 5 Tryd.underlying25 info5s ⟨b, o, none⟩ l.length cap k (by omega)
    have hfr : Rest w R _ _ := fun L hL => rd_from (k := k) (rs L hL) (by omega)
    obtain ⟨ad, had⟩ : ∃ ad, (if cap = k then (⟨b, o, none⟩ : Addr) else (⟨b, o, none⟩ : Addr).add k) = ad := ⟨_, rfl⟩
    rw [had] at hsl hfr
    have Hfr := Lib.hid hfr
    generalize bAt l = D at Hg ⊢
    clear had hfr
    go_enter Tryd.func91, Tryd.ntmps91
    go_wp2_with (first
      | (go_at_call 47; refine (Bad_any R l 0 _ H0.out).eq.mono ?_; rintro _ w1 ⟨rfl, hB1⟩; have hN1 := NewT.trans _ _ _ hw0 hB1; have r1' := NewT.row hN1 r1; have r2' := NewT.rd hN1 r2; have c0 := r1'.cell (i := 0) (by omega); simp only [if_true] at c0)
      | (go_at_call 92; refine (hash1_any _ l [R] w1 r2').mono ?_; rintro _ w2 ⟨rfl, hB2⟩; rw [Hg.out]; simp only; have hN2 := NewT.trans _ _ _ hN1 hB2; have hC : w.heap.size + 1 + 1 ≤ w2.heap.size := (by have a1 := hB1.size; have a2 := hB2.size; rw [Hs0.out] at a1; omega))
      | (refine wpList_store_row rfl 23 (.tmp 6) (.tmp 20) rfl w2.heap.size 32 D rfl rfl (rowIs_box w2 23 32 (bF fun _ => 0)) info31 ?_; intro w3 hK3 hB3 q6; have hN3 : NewT w w3 := NewT.trans _ _ _ hN2 (NewT.of ((NewT.alloc w2 _).out.trans (hB3 _ (Nat.le_refl _))));
         have hE3 : Below (w.heap.size + 1 + 1) w2 w3 := ((NewT.alloc w2 _).out.mono hC).trans (hB3 _ hC);
         have r3 := NewT.row hN3 r1; have c3 := r3.cell (i := 0) (by omega); have f3 := r3.frozen 0; simp only [if_true] at c3;
         have y0 := rowIs_below (NewT.row (NewT.trans _ _ _ hB1 hB2) z0) hE3 (by omega))
      | (refine wpList_load_mid rfl 23 (.tmp 6) rfl w2.heap.size 0 rfl (rowA 32 (bF D)).toList _ (rangeAt_row (q6.setOther (a := ⟨R, 0, none⟩) (by simp; omega) _)) Tryd.underlying23 rfl (by rw [rowA_toList]; simpa using info31) ?_)
      | (refine wpList_store_row rfl 23 (.tmp 4) (.tmp 38) rfl w.heap.size 32 D rfl rfl (y0.setOther (a := ⟨R, 0, none⟩) (by simp; omega) _) info31 ?_; intro w5 hK5 hB5 q5))
    refine bodyPost_ret (results_row rfl _ rfl q5 Tryd.underlying23 info31) rfl ⟨rfl, RT.late (RT.trans _ _ _ (RT.new hR hN3) (RT.setCell w3 0 _)) (Nat.le_refl _) hR hK5 hB5, ?_⟩
    refine ⟨.slice (some ad) (l.length - k) (cap - k), hK5.row (by simp; omega) ((r3.set 0 _).congr fun i hi => ?_), ?_, fun h => absurd rfl h⟩
    · by_cases h0 : i = 0
      · simp [h0]
      · simp [h0]
    · exact ((Hfr.out.new hN3).keep (G := [R]) (by simp) (KeepBut.setCell (a := ⟨R, 0, none⟩) (by simp) _)).keep (by simp; omega) hK5
set_option maxHeartbeats 1000000 in
theorem takeH_bad (R : Nat) (l : List UInt8) (e : Int) (he : e ≠ 0) (w : World) (h : Rdr w R l e) :
    Calls Tryd.prog 91 #[.pointer (some ⟨R, 0, none⟩), .func (.func 92) #[] #[]] w fun ev w' => ev = .returned (.agg (rowA 32 (bF fun _ => 0))) ∧ RT R w w' ∧ Rdr w' R l e := by
  have hR := h.lt
  have hw0 : NewT w ((w.alloc (.cells (rowA 32 (bF fun _ => 0)) 23)).alloc (.cells (rowA 32 (bF fun _ => 0)) 23)) := ((Below.refl _ w).alloc (Nat.le_refl _) _).alloc (by simp) _
  have z0 := (rowIs_box w 23 32 (bF fun _ => 0)).alloc (.cells (rowA 32 (bF fun _ => 0)) 23)
  have z1 := rowIs_box (w.alloc (.cells (rowA 32 (bF fun _ => 0)) 23)) 23 32 (bF fun _ => 0)
  rw [World.size_alloc] at z1
  have h0 := h.new hw0
  have H := Lib.hid h
  have H0 := Lib.hid h0
  have hd : (e != 0) = true := by simpa using he
  have He := Lib.hid he
  clear h h0 he
  go_enter Tryd.func91, Tryd.ntmps91
  go_wp2_with (first
    | (go_at_call 47; refine (Bad_any R l e _ H0.out).eq.mono ?_; rintro _ w1 ⟨rfl, hB1⟩; have y0 := NewT.row hB1 z0; have y1 := NewT.row hB1 z1)
    | (refine wpList_load_mid rfl 23 (.tmp 5) rfl (w.heap.size + 1) 0 rfl (rowA 32 (bF fun _ => 0)).toList _ (rangeAt_row y1) Tryd.underlying23 rfl (by rw [rowA_toList]; simpa using info31) ?_)
    | (refine wpList_store_row rfl 23 (.tmp 4) (.tmp 12) rfl w.heap.size 32 (fun _ => 0) rfl rfl y0 info31 ?_; intro w5 hK5 hB5 q5))
  refine bodyPost_ret (results_row rfl _ rfl q5 Tryd.underlying23 info31) rfl ⟨rfl, RT.late (RT.new hR (NewT.trans _ _ _ hw0 hB1)) (Nat.le_refl _) hR hK5 hB5, ?_⟩
  exact (H.out.new (NewT.trans _ _ _ hw0 hB1)).keep (by simp; omega) hK5
set_option maxHeartbeats 400000 in
theorem RHash_good (R : Nat) (l : List UInt8) (w : World) (h : Rdr w R l 0) :
    Calls Tryd.prog 81 #[.pointer (some ⟨R, 0, none⟩)] w fun ev w' => ev = .returned (.agg (rowA 32 (bF (outH l).1))) ∧ RT R w w' ∧ Rdr w' R (outH l).2.1 ((outH l).2.2 : Int) := by
  have hR := h.lt
  have z0 := rowIs_box w 23 32 (bF fun _ => 0)
  have hN : NewT w (w.alloc (.cells (rowA 32 (bF fun _ => 0)) 23)) := NewT.alloc _ _
  have H := Lib.hid (h.new hN)
  clear h
  go_enter Tryd.func81, Tryd.ntmps81
  go_wp2_with (first
    | (go_at_call 91; refine (takeH_good R l _ H.out).mono ?_; rintro _ w1 ⟨rfl, hT, hr⟩; have y0 := hT.row (by omega) z0)
    | (refine wpList_store_row rfl 23 (.tmp 2) (.tmp 4) rfl w.heap.size 32 _ rfl rfl y0 info31 ?_; intro w5 hK5 hB5 q5))
  refine bodyPost_ret (results_row rfl _ rfl q5 Tryd.underlying23 info31) rfl ⟨rfl, RT.late (RT.trans _ _ _ (RT.new hR hN) hT) (Nat.le_refl _) hR hK5 hB5, ?_⟩
  exact hr.keep (by simp; omega) hK5
set_option maxHeartbeats 400000 in
theorem RHash_bad (R : Nat) (l : List UInt8) (e : Int) (he : e ≠ 0) (w : World) (h : Rdr w R l e) :
    Calls Tryd.prog 81 #[.pointer (some ⟨R, 0, none⟩)] w fun ev w' => ev = .returned (.agg (rowA 32 (bF fun _ => 0))) ∧ RT R w w' ∧ Rdr w' R l e := by
  have hR := h.lt
  have z0 := rowIs_box w 23 32 (bF fun _ => 0)
  have hN : NewT w (w.alloc (.cells (rowA 32 (bF fun _ => 0)) 23)) := NewT.alloc _ _
  have H := Lib.hid (h.new hN)
  have He := Lib.hid he
  clear h he
  go_enter Tryd.func81, Tryd.ntmps81
  go_wp2_with (first
    | (go_at_call 91; refine (takeH_bad R l e He.out _ H.out).mono ?_; rintro _ w1 ⟨rfl, hT, hr⟩; have y0 := hT.row (by omega) z0)
    | (refine wpList_store_row rfl 23 (.tmp 2) (.tmp 4) rfl w.heap.size 32 _ rfl rfl y0 info31 ?_; intro w5 hK5 hB5 q5))
  refine bodyPost_ret (results_row rfl _ rfl q5 Tryd.underlying23 info31) rfl ⟨rfl, RT.late (RT.trans _ _ _ (RT.new hR hN) hT) (Nat.le_refl _) hR hK5 hB5, ?_⟩
  exact hr.keep (by simp; omega) hK5
end Go.Proofs.YthgblcpekhiphaaDoor
/- Layer 3, words that later layers share: bytes as strings; slices of slices; what is read of what was put; a reader in a region. -/
namespace Go.Proofs.YthgblcpekhiphaaDoor
open Go Go.RowKit
set_option maxRecDepth 8000
theorem rdV_form' {W : World} {L : List Nat} {v : Value} {l : List UInt8} (h : RdV W L v l) : ∃ A n cap, v = .slice A n cap ∧ Hid (l.length = n) := by
  obtain ⟨A, cap, hv, _⟩ := h; exact ⟨A, l.length, cap, hv, Lib.hid rfl⟩
/-- A slice of bytes becomes a string. -/
theorem conv_rd {w : World} {L : List Nat} {v : Value} {l : List UInt8} (h : RdV w L v l) : (convert 25 9 v).run Tryd.prog w = .ok (.string ⟨l.toArray⟩) w := by
  obtain ⟨A, cap, rfl, h1, h2, h3⟩ := h
  by_cases h0 : 0 < l.length
  · obtain ⟨b, o, rfl, _, hc⟩ := h3 h0
    have := run_convert_bytes_arg (P := Tryd.prog) w 25 5 Tryd.underlying25 Tryd.underlying5 b o l.length cap (l.map bN) (by simp) (fun i hi => by
      rw [hc i hi]
      simp [bAt, hi]) 9 Tryd.underlying9
    rw [this]
    have e : strOfNums (l.map bN) = ⟨l.toArray⟩ := by
      unfold strOfNums
      congr 2
      rw [List.map_map]
      conv => rhs; rw [← List.map_id l]
      exact List.map_congr_left fun b _ => by simp [bN]
    rw [e]
  · have : l = [] := List.eq_nil_of_length_eq_zero (by omega)
    subst this
    simp only [List.length_nil]
    simp [convert, run_underlying Tryd.underlying25, run_underlying Tryd.underlying9, run_underlying Tryd.underlying5, Conv.bytesToString]
    cases A <;> simp [go_sem] <;> rfl
theorem parts4 {W : World} {v1 v2 v3 v4 : Value} {l1 l2 l3 l4 : List UInt8} (h1 : RdV W [] v1 l1) (h2 : RdV W [] v2 l2) (h3 : RdV W [] v3 l3) (h4 : RdV W [] v4 l4) : Parts (W.alloc (.cells #[v1, v2, v3, v4] 25)) (.slice (some ⟨W.heap.size, 0, none⟩) 4 4) [l1, l2, l3, l4] :=
  ⟨[(v1, l1), (v2, l2), (v3, l3), (v4, l4)], parts_new [(v1, l1), (v2, l2), (v3, l3), (v4, l4)] 25 (by simp) (by simp) (by simp; exact ⟨h1, h2, h3, h4⟩), rfl⟩
theorem parts5 {W : World} {v1 v2 v3 v4 v5 : Value} {l1 l2 l3 l4 l5 : List UInt8} (h1 : RdV W [] v1 l1) (h2 : RdV W [] v2 l2) (h3 : RdV W [] v3 l3) (h4 : RdV W [] v4 l4) (h5 : RdV W [] v5 l5) : Parts (W.alloc (.cells #[v1, v2, v3, v4, v5] 25)) (.slice (some ⟨W.heap.size, 0, none⟩) 5 5) [l1, l2, l3, l4, l5] :=
  ⟨[(v1, l1), (v2, l2), (v3, l3), (v4, l4), (v5, l5)], parts_new [(v1, l1), (v2, l2), (v3, l3), (v4, l4), (v5, l5)] 25 (by simp) (by simp) (by simp; exact ⟨h1, h2, h3, h4, h5⟩), rfl⟩
/-- The first m bytes. -/
theorem rd_to {w : World} {L : List Nat} {A : Option Addr} {n cap m : Nat} {l : List UInt8} (h : RdV w L (.slice A n cap) l) (hm : m ≤ n) : RdV w L (.slice A m cap) (l.take m) := by
  obtain ⟨A', c, hv, h1, h2, h3⟩ := h
  cases hv
  have hlen : (l.take m).length = m := by simp; omega
  refine ⟨A, cap, by rw [hlen], by rw [hlen]; omega, h2, fun h0 => ?_⟩
  rw [hlen] at h0
  obtain ⟨b, o, hA, hb, hc⟩ := h3 (by omega)
  refine ⟨b, o, hA, hb, fun i hi => ?_⟩
  rw [hlen] at hi
  rw [hc i (by omega)]
  simp [bAt, hi]
theorem opr_slice_upto {a : Act} {w : World} {o : Oper} {K : Act → World → Prop} {Q : Exit → Act → World → Prop} {x y : Operand} {A : Option Addr} {n cap m : Nat} (ho : o.op = .slice 25 x none (some y) none) (hx : a.eval x = .slice A n cap) (hy : a.eval y = .int .i64 (m : Int)) (hm : m ≤ cap) (h : K (a.put o.dst (.slice A m cap)) w) : o.wp Tryd.prog a w K Q := by
  obtain ⟨dst, op, type, pos, after, guard⟩ := o
  simp only at ho
  subst ho
  refine opr_val (s := Instr.sliceAt 25 (a.eval x) none (some (a.eval y)) none) rfl ?_ h
  rw [hx, hy]
  have := slice_to A n cap m hm w
  simpa [Instr.sliceAt, run_underlying Tryd.underlying25] using this
theorem ownsRow_newT {w w' : World} {base : Nat} {e : TypeId} {v : Value} {n : Nat} {xs : List Value} (h : w.ownsRow base e 1 v n xs) (hN : NewT w w') : w'.ownsRow base e 1 v n xs := by
  obtain ⟨h1, h2⟩ := h
  refine ⟨h1, ?_⟩
  rcases h2 with h | ⟨g, cap, cur, hv, hb, hh, r⟩
  · exact .inl h
  · exact .inr ⟨g, cap, cur, hv, hb, (hN.out.block g (Array.getElem?_eq_some_iff.1 hh).1).trans hh, r⟩
theorem outN_put (x : Nat) (hx : x ≤ 2147483647) (r : List UInt8) : outN (numL x ++ r) = (x, r, 0) := by
  unfold outN
  rw [goN_put x hx r]
  simp only [if_true]
  rw [← numL_length x]; simp
/-- A new reader of l. -/
def svRdr (W : World) (l : List UInt8) : SV NewT := ⟨fun v w => ∃ R, v = .pointer (some ⟨R, 0, none⟩) ∧ W.heap.size ≤ R ∧ Rdr w R l 0, fun _ _ _ ⟨R, h1, h2, h3⟩ hT => ⟨R, h1, h2, h3.new hT⟩⟩
/-- It reads as l, whatever a reader R does. -/
def svRdR (R : Nat) (l : List UInt8) : SV (RT R) := ⟨fun v w => RdV w [R] v l, fun _ _ _ h hT => hT.rd h⟩
theorem All_rd (pv : Value) (ls : List (List UInt8)) (l : List UInt8) (w : World) (hp : Parts w pv ls) (hl : ls.flatten = l) (ht : l.length ≤ 1000000) : Cv 25 #[pv] w (svRd l) :=
  Calls.mono (All_cv pv ls l w hp hl ht) fun _ _ ⟨v, he, hN, hv⟩ => ⟨v, he, hN, hv [] (by simp)⟩
theorem Read_cv (v : Value) (l : List UInt8) (w W : World) (h : RdV w [] v l) (hl : l.length ≤ 1000000) (hW : W.heap.size ≤ w.heap.size) : Cv 24 #[v] w (svRdr W l) :=
  Calls.mono (Read_any v l w h hl) fun _ _ ⟨R, he, hN, hR, hr⟩ => ⟨_, he, hN, R, rfl, Nat.le_trans hW hR, hr⟩
theorem Left_len (R : Nat) (l : List UInt8) (n : Nat) (w : World) (h : Rdr w R l 0) (hn : l.length = n) : Cv 27 #[.pointer (some ⟨R, 0, none⟩)] w (.eq (.int .i64 (n : Int))) := hn ▸ Left_any R l 0 w h
theorem run_bs5 (v1 v2 v3 v4 v5 : Value) (h1 : ∃ A n c, v1 = .slice A n c) (h2 : ∃ A n c, v2 = .slice A n c) (h3 : ∃ A n c, v3 = .slice A n c) (h4 : ∃ A n c, v4 = .slice A n c) (h5 : ∃ A n c, v5 = .slice A n c) (w : World) : (Instr.buildSlice 50 5 #[(0, v1), (1, v2), (2, v3), (3, v4), (4, v5)]).run Tryd.prog w = .ok (.slice (some ⟨w.heap.size, 0, none⟩) 5 5) (w.alloc (.cells #[v1, v2, v3, v4, v5] 25)) := by
  obtain ⟨_, _, _, rfl⟩ := h1
  obtain ⟨_, _, _, rfl⟩ := h2
  obtain ⟨_, _, _, rfl⟩ := h3
  obtain ⟨_, _, _, rfl⟩ := h4
  obtain ⟨_, _, _, rfl⟩ := h5
  simp [go_sem]
theorem rd_is {w : World} {L : List Nat} {v : Value} {l : List UInt8} (h : RdV w L v l) : ∃ A n c, v = .slice A n c := by obtain ⟨A, c, hv, _⟩ := h; exact ⟨A, _, c, hv⟩
theorem opr_bs5 {a : Act} {w : World} {o : Oper} {K : Act → World → Prop} {Q : Exit → Act → World → Prop} {x1 x2 x3 x4 x5 : Operand} {l1 l2 l3 l4 l5 : List UInt8} (ho : o.op = .buildSlice 50 5 #[(0, x1), (1, x2), (2, x3), (3, x4), (4, x5)]) (h1 : RdV w [] (a.eval x1) l1) (h2 : RdV w [] (a.eval x2) l2) (h3 : RdV w [] (a.eval x3) l3) (h4 : RdV w [] (a.eval x4) l4) (h5 : RdV w [] (a.eval x5) l5) (h : ∀ v w', NewT w w' → Parts w' v [l1, l2, l3, l4, l5] → K (a.put o.dst v) w') : o.wp Tryd.prog a w K Q := by
  obtain ⟨dst, op, type, pos, after, guard⟩ := o
  simp only at ho
  subst ho
  exact opr_val (s := Instr.buildSlice 50 5 #[(0, a.eval x1), (1, a.eval x2), (2, a.eval x3), (3, a.eval x4), (4, a.eval x5)]) (by simp [execOp]) (run_bs5 _ _ _ _ _ (rd_is h1) (rd_is h2) (rd_is h3) (rd_is h4) (rd_is h5) w) (h _ _ (NewT.alloc _ _) (parts5 h1 h2 h3 h4 h5))
theorem opr_eql_bool {a : Act} {w : World} {o : Oper} {K : Act → World → Prop} {Q : Exit → Act → World → Prop} {x y : Operand} {t' : TypeId} {q : Bool} (ho : o.op = .binOp .eql 4 x y t') (hx : a.eval x = .bool q) (hy : a.eval y = .bool q) (h : K (a.put o.dst (.bool true)) w) : o.wp Tryd.prog a w K Q := by
  obtain ⟨dst, op, type, pos, after, guard⟩ := o
  simp only at ho
  subst ho
  refine opr_val (s := do eqGuard .eql 4 x y (a.eval x) (a.eval y); binOp .eql 4 (a.eval x) (a.eval y)) rfl ?_ h
  rw [hx, hy]
  cases q <;> simp [go_sem]
theorem outQ_put (q : Bool) (r : List UInt8) : outQ (cond q 1 0 :: r) = (q, r, 0) := by cases q <;> rfl
theorem outB_put (l r : List UInt8) (hl : l.length ≤ 1000000) : outB (numL l.length ++ l ++ r) (l.length : Int) = (l, r, 0) := by
  have hg := goN_put l.length (by omega) (l ++ r)
  rw [← List.append_assoc] at hg
  have hd : (numL l.length ++ l ++ r).drop (sz l.length) = l ++ r := by
    rw [List.append_assoc, ← numL_length l.length]; simp
  have hB : goB (numL l.length ++ l ++ r) (l.length : Int) = (l, sz l.length + l.length, 0) := by
    unfold goB
    rw [hg]
    simp only
    rw [if_neg (by simp), if_neg (by omega), if_neg (by simp [numL_length]), hd]
    simp
  unfold outB
  rw [hB]
  simp only [if_true]
  rw [← List.drop_drop, hd]
  simp
theorem outH_put (d : Nat → UInt8) (r : List UInt8) : (outH (digL d ++ r)).2 = (r, 0) ∧ rowA 32 (bF (outH (digL d ++ r)).1) = rowA 32 (bF d) := by
  have hl : ¬ (digL d ++ r).length < 32 := by simp [digL_length]
  unfold outH
  rw [if_neg hl]
  refine ⟨?_, rowA_congr fun i hi => ?_⟩
  · have := digL_length d
    simp [← this]
  · rw [bF_at, bF_at]
    congr 2
    have h1 : i < (digL d).length := by rw [digL_length]; exact hi
    show (digL d ++ r).getD i 0 = d i
    rw [List.getD_eq_getElem?_getD, List.getElem?_append_left h1]
    simp [digL, hi]
/-- The last place of a row of the call's own is written. -/
theorem ownsRow_last {w : World} {base g n cap : Nat} {e : TypeId} {xs : List Value} {u : Value} (h : w.ownsRow base e 1 (.slice (some ⟨g, 0, none⟩) (n + 1) cap) (n + 1) (xs ++ [u])) (u' : Value) :
    (w.setCell ⟨g, n, none⟩ u').ownsRow base e 1 (.slice (some ⟨g, 0, none⟩) (n + 1) cap) (n + 1) (xs ++ [u']) := by
  obtain ⟨h1, h2⟩ := h
  have hx : xs.length = n := by simpa using h1
  rcases h2 with ⟨h, _⟩ | ⟨g', cap', cur, hv, hb, hh, hnc, hm, hs, ht⟩
  · cases h
  · cases hv
    refine ⟨by simpa using hx, .inr ⟨g, cap, cur.setIfInBounds n u', rfl, hb, by simp [World.setCell, Array.getElem?_modify, hh], hnc, hm, by simpa using hs, ?_⟩⟩
    have e1 : cur.toList.take n = xs := by
      have := congrArg (List.take n) ht
      rw [List.take_take, Nat.min_eq_left (by omega)] at this
      rw [this, List.take_append_of_le_length (by omega)]
      exact List.take_of_length_le (by omega)
    have hlt : n < cur.toList.length := by simp; omega
    rw [Nat.mul_one, Array.toList_setIfInBounds, List.take_add_one, List.take_set_of_le (Nat.le_refl _), e1]
    simp [show n < cur.size by omega]
theorem frozen_own {w : World} {base g n cap : Nat} {e : TypeId} {xs : List Value} (h : w.ownsRow base e 1 (.slice (some ⟨g, 0, none⟩) n cap) n xs) (i : Nat) : w.frozen? ⟨g, i, none⟩ = false := by
  obtain ⟨_, h2⟩ := h
  rcases h2 with ⟨h, _⟩ | ⟨g', cap', cur, hv, _, hh, _⟩
  · cases h
  · cases hv; simp [World.frozen?, hh]
theorem bN_uB (n : Nat) (h : n < 256) : bN (uB n) = (n : Int) := by rw [bN, toNat_uB]; omega
theorem Num_rd (n : Int) (l : List UInt8) (w : World) (h : numI n = l) : Cv 38 #[.int .i64 n] w (svRd l) :=
  Calls.mono (Num_cv n w) fun _ _ ⟨v, he, hN, hv⟩ => ⟨v, he, hN, by rw [h] at hv; exact hv [] (by simp)⟩
theorem Flag_rd (b : Bool) (l : List UInt8) (w : World) (h : [cond b 1 0] = l) : Cv 77 #[.bool b] w (svRd l) :=
  Calls.mono (Flag_cv b w) fun _ _ ⟨v, he, hN, hv⟩ => ⟨v, he, hN, by rw [show [if b then (1 : UInt8) else 0] = l by rw [← h]; cases b <;> rfl] at hv; exact hv [] (by simp)⟩
theorem WBytes_rd (v : Value) (l z : List UInt8) (w : World) (h : RdV w [] v l) (hl : l.length ≤ 900000) (hz : numL l.length ++ l = z) : Cv 78 #[v] w (svRd z) :=
  Calls.mono (WBytes_cv v l w h hl) fun _ _ ⟨v, he, hN, hv⟩ => ⟨v, he, hN, by rw [hz] at hv; exact hv [] (by simp)⟩
theorem WHash_rd (d : Nat → UInt8) (w : World) : Cv 76 #[.agg (rowA 32 (bF d))] w (svRd (digL d)) :=
  Calls.mono (WHash_cv d w) fun _ _ ⟨v, he, hN, hv⟩ => ⟨v, he, hN, hv [] (by simp)⟩
end Go.Proofs.YthgblcpekhiphaaDoor
/- Steps by value, new records and steps in memory, what a call hands back in a cell. -/
namespace Go.Proofs.YthgblcpekhiphaaDoor
open Go Go.RowKit
set_option maxRecDepth 8000

/-- The cells of a step. -/
def stepF (s : Int × Int) (i : Nat) : Value := if i = 0 then .int .i64 s.1 else .int .i64 s.2
theorem info_step : (Tryd.prog.info? 46).map (·.size) = some 2 := by kernel_rfl
theorem run_alloc_rec (w : World) : (Instr.alloc 27 true (.tuple #[])).run Tryd.prog w = .ok (.pointer (some ⟨w.heap.size, 0, none⟩)) (w.alloc (.cells (rowA 109 (recF zR (.slice none 0 0) (.slice none 0 0))) 27)) := by kernel_rfl
theorem run_alloc_step (w : World) : (Instr.alloc 46 true (.tuple #[])).run Tryd.prog w = .ok (.pointer (some ⟨w.heap.size, 0, none⟩)) (w.alloc (.cells (rowA 2 (stepF (0, 0))) 46)) := by kernel_rfl
theorem recF_one (x : Rc) (sv dv : Value) (hs : sv.oneCell' = true) (hd : dv.oneCell' = true) (i : Nat) : (recF x sv dv i).oneCell' = true := by
  unfold recF bF
  repeat' split
  all_goals first | rfl | assumption
theorem stepF_one (s : Int × Int) (i : Nat) : (stepF s i).oneCell' = true := by unfold stepF; split <;> rfl
theorem oneP {w : World} {v : Value} {l : List (Int × Int)} (h : RdP w v l) : v.oneCell' = true := by obtain ⟨A, c, rfl, _⟩ := h; rfl
theorem oneR {w : World} {L : List Nat} {v : Value} {l : List UInt8} (h : RdV w L v l) : v.oneCell' = true := by obtain ⟨A, c, rfl, _⟩ := h; rfl
section
variable {P : Program} {ops : Array Oper} {rest : List Oper} {a : Act} {w : World} {Q : Exit → Act → World → Prop}
theorem wpList_new {o1 o2 : Oper} {t : TypeId} {n d0 : Nat} {y : Operand} {f f0 : Nat → Value} (hg1 : o1.guard = none) (hg2 : o2.guard = none) (h1 : o1.op = .alloc t) (hd : o1.dst = some d0) (h2 : o2.op = .store t (.tmp d0) y) (hd2 : o2.dst = none) (hlt : d0 < a.tmps.size)
    (hal : ∀ w : World, (Instr.alloc t true (.tuple #[])).run P w = .ok (.pointer (some ⟨w.heap.size, 0, none⟩)) (w.alloc (.cells (rowA n f0) t))) (hi : (P.info? t).map (·.size) = some n) (hone : ∀ i, (f i).oneCell' = true)
    (hy : (a.put (some d0) (.pointer (some ⟨w.heap.size, 0, none⟩))).eval y = .agg (rowA n f)) (h : ∀ w', NewT w w' → w'.rowIs w.heap.size t n f → wpList P ops Q rest (a.put (some d0) (.pointer (some ⟨w.heap.size, 0, none⟩))) w') : wpList P ops Q (o1 :: o2 :: rest) a w := by
  refine wpList_plain hg1 fun K hK => ?_
  obtain ⟨dst, op, type, pos, after, guard⟩ := o1
  simp only at h1 hd
  subst h1 hd
  refine opr_val (s := Instr.alloc t true (.tuple #[])) rfl (hal w) (hK _ _ ?_)
  have hr := rowIs_box w t n f0
  refine wpList_store_mid hg2 t (.tmp d0) y h2 w.heap.size 0 (rowA n f) (by rw [eval_tmp]; simp [Act.put, hlt]) hy (by rw [rowA_size]; exact there_row hr) (by rw [rowA_size]; exact hi) (rowA_one _ _ hone) ?_
  rw [hd2]
  exact h _ (below_setCells _ (Nat.le_refl _) _ _ _ (NewT.alloc _ _).out) (rowIs_setAll hr f)
/-- A part of a row that is the call's own is written. -/
theorem wpList_put {o : Oper} {t t' : TypeId} {x y : Operand} {g o0 n m : Nat} {f f0 F : Nat → Value} (hg : o.guard = none) (ho : o.op = .store t x y) (hd : o.dst = none) (hx : a.eval x = .pointer (some ⟨g, o0, none⟩)) (hy : a.eval y = .agg (rowA m f)) (hr : w.rowIs g t' n f0) (hm : o0 + m ≤ n) (hi : (P.info? t).map (·.size) = some m) (hone : ∀ i, (f i).oneCell' = true)
    (hF : ∀ i, i < n → F i = if o0 ≤ i ∧ i < o0 + m then f (i - o0) else f0 i) (h : ∀ w', (∀ B, B ≤ g → Below B w w') → w'.rowIs g t' n F → wpList P ops Q rest a w') : wpList P ops Q (o :: rest) a w := by
  refine wpList_store_mid hg t x y ho g o0 (rowA m f) hx hy (by rw [rowA_size]; exact fun j hj => ⟨by simp [hr.cell (i := o0 + j) (by omega)], by simpa using hr.frozen (o0 + j)⟩) (by rw [rowA_size]; exact hi) (rowA_one _ _ hone) ?_
  rw [hd]
  refine h _ (fun B hB => below_setCells g hB _ _ _ (Below.refl _ _)) ((rowIs_setCells_at hr (rowA m f).toList o0).congr fun i hi => ?_)
  rw [hF i hi, rowA_toList]
  simp only [List.length_map, List.length_range]
  by_cases h : o0 ≤ i ∧ i < o0 + m
  · rw [if_pos h, if_pos h]
    simp [show i - o0 < m by omega]
  · rw [if_neg h, if_neg h]
theorem wpList_put1 {o : Oper} {t t' : TypeId} {x y : Operand} {g o0 n : Nat} {v : Value} {f0 F : Nat → Value} (hg : o.guard = none) (ho : o.op = .store t x y) (hd : o.dst = none) (hx : a.eval x = .pointer (some ⟨g, o0, none⟩)) (hy : a.eval y = v) (hr : w.rowIs g t' n f0) (hm : o0 < n) (hi : (P.info? t).map (·.size) = some 1) (hone : v.oneCell' = true)
    (hF : ∀ i, i < n → F i = if i = o0 then v else f0 i) (h : ∀ w', (∀ B, B ≤ g → Below B w w') → w'.rowIs g t' n F → wpList P ops Q rest a w') : wpList P ops Q (o :: rest) a w := by
  refine wpList_plain hg fun K hK => ?_
  obtain ⟨dst, op, type, pos, after, guard⟩ := o
  simp only at ho hd
  subst ho hd
  have hsz : (sizeOf t).run P w = .ok 1 w := by
    cases hq : P.info? t with
    | none => simp [hq] at hi
    | some i => simp [hq] at hi; simp [sizeOf, typeInfo, hq, hi]
  have hc := hr.cell hm
  have hf := hr.frozen o0
  have hcs : v.cells = #[v] := by cases v <;> first | rfl | simp [Value.oneCell'] at hone
  refine opr_unit (s := Instr.storeAt t (a.eval x) (a.eval y)) (w' := w.setCell ⟨g, o0, none⟩ v) rfl ?_ (hK _ _ ?_)
  · rw [hx, hy]
    simp [Instr.storeAt, Instr.sureAddr, storeVar, hsz, hcs, storeCells, run_store _ _ _ _ _ hone, hc, hf, Addr.add_zero']
  · exact h _ (fun B hB => (Below.refl B w).setCell (p := ⟨g, o0, none⟩) hB v) ((hr.set o0 v).congr fun i hi => by rw [hF i hi])
/-- A record or a row that a call hands back. -/
theorem results_agg {fn : Func} {p : Tmp} {ty t : TypeId} {d : TypeDesc} {n b : Nat} {f : Nat → Value} (hf : fn.results = #[.cell p ty]) (tmps : Array Value) (hp : tmps.getD p undef = .pointer (some ⟨b, 0, none⟩))
    (h : w.rowIs b t n f) (hu : P.underlying ty = some d) (hd : d.isRow = true) (hi : (P.info? ty).map (·.size) = some n) : (results fn tmps).run P w = .ok (.agg (rowA n f)) w := by
  have := run_loadVar_mid (P := P) w b 0 ty (rowA n f).toList d (rangeAt_row h) hu hd (by rw [hi, rowA_toList]; simp)
  have hp' : tmps[p]?.getD undef = .pointer (some ⟨b, 0, none⟩) := by simpa using hp
  simp [results, hf, hp', asAddr, this]
end
section
variable {a : Act} {w : World} {o : Oper} {K : Act → World → Prop} {Q : Exit → Act → World → Prop} {x y : Operand} {g : Nat}
theorem opr_idxS {b o0 n c k : Nat} (hk : k < n) (ho : o.op = .indexAddr 24 x y) (hx : a.eval x = .slice (some ⟨b, o0, none⟩) n c) (hy : a.eval y = .int .i64 (k : Int)) (h : K (a.put o.dst (.pointer (some ⟨b, o0 + 2 * k, none⟩))) w) : o.wp Tryd.prog a w K Q := by
  obtain ⟨dst, op, type, pos, after, guard⟩ := o
  simp only at ho
  subst ho
  refine opr_val (s := Instr.indexAt 24 (a.eval x) (a.eval y)) rfl ?_ h
  rw [hx, hy]
  have hsz : (sizeOf 46).run Tryd.prog w = .ok 2 w := by
    have hs := info_step
    cases hq : Tryd.prog.info? 46 with
    | none => simp [hq] at hs
    | some i => simp [hq] at hs; simp [sizeOf, typeInfo, hq, hs]
  simp [Instr.indexAt, asIntOf, run_underlying Tryd.underlying24, hk, Addr.add_mid, Nat.mul_comm]
theorem opr_ld2 {o0 : Nat} {s : Int × Int} (h0 : w.cell? ⟨g, o0, none⟩ = some (.int .i64 s.1)) (h1 : w.cell? ⟨g, o0 + 1, none⟩ = some (.int .i64 s.2)) (ho : o.op = .load 46 x) (hx : a.eval x = .pointer (some ⟨g, o0, none⟩)) (h : K (a.put o.dst (.agg (rowA 2 (stepF s)))) w) : o.wp Tryd.prog a w K Q := by
  refine wp_load_mid 46 x ho g o0 hx [.int .i64 s.1, .int .i64 s.2] _ (fun j v hv => ?_) Tryd.underlying46 rfl info_step h
  match j, hv with
  | 0, hv => simp at hv; subst hv; exact h0
  | 1, hv => simp at hv; subst hv; exact h1
theorem opr_ldSt {t' : TypeId} {s : Int × Int} (hr : w.rowIs g t' 2 (stepF s)) (ho : o.op = .load 46 x) (hx : a.eval x = .pointer (some ⟨g, 0, none⟩)) (h : K (a.put o.dst (.agg (rowA 2 (stepF s)))) w) : o.wp Tryd.prog a w K Q :=
  opr_ldm Tryd.underlying46 rfl info_step ho hx hr (by omega) (by rw [rowA_congr (g := stepF s) fun i _ => by rw [Nat.zero_add]]; exact h)
theorem eqType_step : Tryd.prog.eqGuardType Tryd.prog.depth 46 = false := by kernel_rfl
theorem equalIn_step (w : World) (s t : Int × Int) : (Op.equalIn 10000 46 (.agg (rowA 2 (stepF s))) (.agg (rowA 2 (stepF t)))).run Tryd.prog w = .ok (decide (s = t)) w := by
  rw [show rowA 2 (stepF s) = #[.int .i64 s.1, .int .i64 s.2] from rfl, show rowA 2 (stepF t) = #[.int .i64 t.1, .int .i64 t.2] from rfl]
  obtain ⟨s1, s2⟩ := s
  obtain ⟨t1, t2⟩ := t
  rw [run_equalIn_agg w 9999 46 _ _ (by kernel_rfl) (by kernel_rfl)]
  by_cases h1 : s1 = t1
  · by_cases h2 : s2 = t2
    · subst h1 h2; simp [go_sem]
    · subst h1; simp [go_sem, h2]
  · simp [go_sem, h1]
theorem opr_neqS {t2 : TypeId} {s t : Int × Int} {b : Bool} (hb : (!decide (s = t)) = b) (ho : o.op = .binOp .neq 46 x y t2) (hx : a.eval x = .agg (rowA 2 (stepF s))) (hy : a.eval y = .agg (rowA 2 (stepF t))) (h : K (a.put o.dst (.bool b)) w) : o.wp Tryd.prog a w K Q := by
  obtain ⟨dst, op', type, pos, after, guard⟩ := o
  simp only at ho
  subst ho hb
  refine opr_val (s := do eqGuard .neq 46 x y (a.eval x) (a.eval y); binOp .neq 46 (a.eval x) (a.eval y)) rfl ?_ h
  rw [hx, hy, Sem.run_bind, run_eqGuard_agg _ _ _ _ _ _ _ eqType_step]
  simp only [Result.andThen_ok]
  rw [run_neq_struct, equalIn_step]; rfl
end
/-- A pointer into a record that a region made. -/
def svPtr (F : Nat → Value) (off : Nat) : SV NewT := ⟨fun v w => ∃ g, v = .pointer (some ⟨g, off, none⟩) ∧ w.rowIs g 27 109 F, fun _ _ _ ⟨g, h1, h2⟩ hT => ⟨g, h1, hT.row h2⟩⟩
section
variable {a : Act} {w : World} {o : Oper} {K : Act → World → Prop} {Q : Exit → Act → World → Prop} {x : Operand} {F : Nat → Value} {off : Nat} {v : Value}
theorem opr_boxR (_hone : ∀ i, (F i).oneCell' = true) (ho : o.op = .box 27 x) (hx : a.eval x = .agg (rowA 109 F)) (h : ∀ v w', NewT w w' → (svPtr F 0).pred v w' → K (a.put o.dst v) w') : o.wp Tryd.prog a w K Q := by
  obtain ⟨dst, op, type, pos, after, guard⟩ := o
  simp only at ho
  subst ho
  refine opr_val (s := Instr.box 27 (a.eval x)) (w' := w.alloc (.cells (rowA 109 F) 27)) rfl ?_ (h _ _ (NewT.alloc _ _) ⟨w.heap.size, rfl, rowIs_box w _ 109 F⟩)
  rw [hx]
  simp [go_sem]
theorem opr_fldP {k : Nat} (hk : k < 16) (ho : o.op = .fieldAddr 27 x k) (hx : (svPtr F 0).pred (a.eval x) w) (h : ∀ v, (svPtr F (recOff k)).pred v w → K (a.put o.dst v) w) : o.wp Tryd.prog a w K Q := by
  obtain ⟨g, hg, hr⟩ := hx
  exact opr_fldR hk ho hg (h _ ⟨g, rfl, hr⟩)
theorem opr_ldIP (hx : (svPtr F off).pred (a.eval x) w) (hn : off < 109) (hv : F off = v) (ho : o.op = .load 3 x) (h : K (a.put o.dst v) w) : o.wp Tryd.prog a w K Q := by
  obtain ⟨g, hg, hr⟩ := hx
  exact opr_ldI hr hn hv ho hg h
theorem opr_ldQP (hx : (svPtr F off).pred (a.eval x) w) (hn : off < 109) (hv : F off = v) (ho : o.op = .load 4 x) (h : K (a.put o.dst v) w) : o.wp Tryd.prog a w K Q := by
  obtain ⟨g, hg, hr⟩ := hx
  exact opr_ldQ hr hn hv ho hg h
theorem opr_ldSP (hx : (svPtr F off).pred (a.eval x) w) (hn : off < 109) (hv : F off = v) (ho : o.op = .load 24 x) (h : K (a.put o.dst v) w) : o.wp Tryd.prog a w K Q := by
  obtain ⟨g, hg, hr⟩ := hx
  exact opr_ldS hr hn hv ho hg h
theorem opr_ldBP (hx : (svPtr F off).pred (a.eval x) w) (hn : off < 109) (hv : F off = v) (ho : o.op = .load 25 x) (h : K (a.put o.dst v) w) : o.wp Tryd.prog a w K Q := by
  obtain ⟨g, hg, hr⟩ := hx
  exact opr_ldB hr hn hv ho hg h
theorem opr_ldHP {d : Nat → UInt8} (hx : (svPtr F off).pred (a.eval x) w) (hn : off + 32 ≤ 109) (hv : ∀ j, j < 32 → F (off + j) = bF d j) (ho : o.op = .load 23 x) (h : K (a.put o.dst (.agg (rowA 32 (bF d)))) w) : o.wp Tryd.prog a w K Q := by
  obtain ⟨g, hg, hr⟩ := hx
  exact opr_ldH hr hn hv ho hg h
end
section
variable {P : Program} {a : Act} {w : World} {o : Oper} {K : Act → World → Prop} {Q : Exit → Act → World → Prop}
theorem opr_put1 {t t' : TypeId} {x y : Operand} {g o0 n : Nat} {v : Value} {f0 F : Nat → Value} (ho : o.op = .store t x y) (hx : a.eval x = .pointer (some ⟨g, o0, none⟩)) (hy : a.eval y = v) (hr : w.rowIs g t' n f0) (hm : o0 < n) (hi : (P.info? t).map (·.size) = some 1) (hone : v.oneCell' = true)
    (hF : ∀ i, i < n → F i = if i = o0 then v else f0 i) (h : ∀ w', RT g w w' → w'.rowIs g t' n F → K (a.put o.dst undef) w') : o.wp P a w K Q := by
  obtain ⟨dst, op, type, pos, after, guard⟩ := o
  simp only at ho
  subst ho
  have hsz : (sizeOf t).run P w = .ok 1 w := by
    cases hq : P.info? t with
    | none => simp [hq] at hi
    | some i => simp [hq] at hi; simp [sizeOf, typeInfo, hq, hi]
  have hc := hr.cell hm
  have hf := hr.frozen o0
  have hcs : v.cells = #[v] := by cases v <;> first | rfl | simp [Value.oneCell'] at hone
  refine opr_unit (s := Instr.storeAt t (a.eval x) (a.eval y)) (w' := w.setCell ⟨g, o0, none⟩ v) rfl ?_ (h _ (RT.setCell w o0 v) ((hr.set o0 v).congr fun i hi => by rw [hF i hi]))
  rw [hx, hy]
  simp [Instr.storeAt, Instr.sureAddr, storeVar, hsz, hcs, storeCells, run_store _ _ _ _ _ hone, hc, hf, Addr.add_zero']
theorem RT.setCells {R : Nat} (vs : List Value) (o : Nat) (w : World) : RT R w (w.setCells R o vs) := by
  induction vs generalizing o w with
  | nil => exact RT.refl _ _
  | cons v r ih => rw [World.setCells]; exact RT.trans _ _ _ (RT.setCell w o v) (ih (o + 1) _)
theorem opr_putm {t t' : TypeId} {x y : Operand} {g o0 n m : Nat} {f f0 F : Nat → Value} (ho : o.op = .store t x y) (hx : a.eval x = .pointer (some ⟨g, o0, none⟩)) (hy : a.eval y = .agg (rowA m f)) (hr : w.rowIs g t' n f0) (hm : o0 + m ≤ n) (hi : (P.info? t).map (·.size) = some m) (hone : ∀ i, (f i).oneCell' = true)
    (hF : ∀ i, i < n → F i = if o0 ≤ i ∧ i < o0 + m then f (i - o0) else f0 i) (h : ∀ w', RT g w w' → w'.rowIs g t' n F → K (a.put o.dst undef) w') : o.wp P a w K Q := by
  refine wp_store_mid t x y ho g o0 (rowA m f) hx hy (by rw [rowA_size]; exact fun j hj => ⟨by simp [hr.cell (i := o0 + j) (by omega)], by simpa using hr.frozen (o0 + j)⟩) (by rw [rowA_size]; exact hi) (rowA_one _ _ hone) ?_
  refine h _ (RT.setCells _ _ _) ((rowIs_setCells_at hr (rowA m f).toList o0).congr fun i hi => ?_)
  rw [hF i hi, rowA_toList]
  simp only [List.length_map, List.length_range]
  by_cases h : o0 ≤ i ∧ i < o0 + m
  · rw [if_pos h, if_pos h]
    simp [show i - o0 < m by omega]
  · rw [if_neg h, if_neg h]
end
section
variable (x : Rc) (sv dv : Value) (i : Nat)
theorem rs_kind (n : Int) : recF { x with kind := n } sv dv i = if i = 0 then .int .i64 n else recF x sv dv i := by
  unfold recF; by_cases h : i = 0
  · subst h; rfl
  · simp only [h, if_false]
theorem rs_saga (n : Int) : recF { x with saga := n } sv dv i = if i = 1 then .int .i64 n else recF x sv dv i := by
  unfold recF; by_cases h : i = 1
  · subst h; rfl
  · simp only [h, if_false]
theorem rs_seq (n : Int) : recF { x with seq := n } sv dv i = if i = 2 then .int .i64 n else recF x sv dv i := by
  unfold recF; by_cases h : i = 2
  · subst h; rfl
  · simp only [h, if_false]
theorem rs_step (n : Int) : recF { x with step := n } sv dv i = if i = 3 then .int .i64 n else recF x sv dv i := by
  unfold recF; by_cases h : i = 3
  · subst h; rfl
  · simp only [h, if_false]
theorem rs_tr (n : Int) : recF { x with tr := n } sv dv i = if i = 4 then .int .i64 n else recF x sv dv i := by
  unfold recF; by_cases h : i = 4
  · subst h; rfl
  · simp only [h, if_false]
theorem rs_nd (n : Int) : recF { x with nd := n } sv dv i = if i = 7 then .int .i64 n else recF x sv dv i := by
  unfold recF; by_cases h : i = 7
  · subst h; rfl
  · simp only [h, if_false]
theorem rs_part (n : Int) : recF { x with part := n } sv dv i = if i = 8 then .int .i64 n else recF x sv dv i := by
  unfold recF; by_cases h : i = 8
  · subst h; rfl
  · simp only [h, if_false]
theorem rs_epoch (n : Int) : recF { x with epoch := n } sv dv i = if i = 9 then .int .i64 n else recF x sv dv i := by
  by_cases h : i = 9
  · subst h; rfl
  · rw [if_neg h]
    by_cases h10 : i < 10
    · have : i = 0 ∨ i = 1 ∨ i = 2 ∨ i = 3 ∨ i = 4 ∨ i = 5 ∨ i = 6 ∨ i = 7 ∨ i = 8 := by omega
      rcases this with rfl | rfl | rfl | rfl | rfl | rfl | rfl | rfl | rfl <;> rfl
    · unfold recF; simp only [h10, if_false]
theorem rs_back (n : Bool) : recF { x with back := n } sv dv i = if i = 5 then .bool n else recF x sv dv i := by
  unfold recF; by_cases h : i = 5
  · subst h; rfl
  · simp only [h, if_false]
theorem rs_good (n : Bool) : recF { x with good := n } sv dv i = if i = 6 then .bool n else recF x sv dv i := by
  unfold recF; by_cases h : i = 6
  · subst h; rfl
  · simp only [h, if_false]
theorem rs_gone (n : Bool) : recF { x with gone := n } sv dv i = if i = 76 then .bool n else recF x sv dv i := by
  unfold recF; by_cases h : i = 76
  · subst h; rfl
  · simp only [h, if_false]
theorem rs_steps (v : Value) : recF x v dv i = if i = 42 then v else recF x sv dv i := by
  unfold recF; by_cases h : i = 42
  · subst h; rfl
  · simp only [h, if_false]
theorem rs_data (v : Value) : recF x sv v i = if i = 43 then v else recF x sv dv i := by
  unfold recF; by_cases h : i = 43
  · subst h; rfl
  · simp only [h, if_false]
theorem rs_tag (d : Nat → UInt8) (hi : i < 109) : recF { x with tag := d } sv dv i = if 10 ≤ i ∧ i < 10 + 32 then bF d (i - 10) else recF x sv dv i := by
  by_cases h : 10 ≤ i ∧ i < 10 + 32
  · rw [if_pos h]; obtain ⟨j, rfl⟩ := Nat.exists_eq_add_of_le h.1; rw [recF_tag _ _ _ _ (by omega), Nat.add_sub_cancel_left]
  · rw [if_neg h]; unfold recF; by_cases h1 : i < 10
    · simp only [h1, if_true]
    · have h2 : ¬ i < 42 := by omega
      simp only [h1, h2, if_false]
theorem rs_salt (d : Nat → UInt8) (hi : i < 109) : recF { x with salt := d } sv dv i = if 44 ≤ i ∧ i < 44 + 32 then bF d (i - 44) else recF x sv dv i := by
  by_cases h : 44 ≤ i ∧ i < 44 + 32
  · rw [if_pos h]; obtain ⟨j, rfl⟩ := Nat.exists_eq_add_of_le h.1; rw [recF_salt _ _ _ _ (by omega), Nat.add_sub_cancel_left]
  · rw [if_neg h]; unfold recF; by_cases h1 : i < 10
    · simp only [h1, if_true]
    · by_cases h2 : i < 42
      · simp only [h1, h2, if_true, if_false]
      · by_cases h3 : i = 42
        · subst h3; rfl
        · by_cases h4 : i = 43
          · subst h4; rfl
          · have h5 : ¬ i < 76 := by omega
            simp only [h1, h2, h3, h4, h5, if_false]
theorem rs_com (d : Nat → UInt8) (hi : i < 109) : recF { x with com := d } sv dv i = if 77 ≤ i ∧ i < 77 + 32 then bF d (i - 77) else recF x sv dv i := by
  by_cases h : 77 ≤ i ∧ i < 77 + 32
  · rw [if_pos h]; obtain ⟨j, rfl⟩ := Nat.exists_eq_add_of_le h.1; rw [recF_com _ _ _ _ (by omega), Nat.add_sub_cancel_left]
  · rw [if_neg h]; unfold recF; by_cases h1 : i < 10
    · simp only [h1, if_true]
    · by_cases h2 : i < 42
      · simp only [h1, h2, if_true, if_false]
      · by_cases h3 : i = 42
        · subst h3; rfl
        · by_cases h4 : i = 43
          · subst h4; rfl
          · by_cases h5 : i < 76
            · simp only [h1, h2, h3, h4, h5, if_true, if_false]
            · have h6 : i = 76 := by omega
              subst h6; rfl
end
theorem rdP_nil (w : World) : RdP w (.slice none 0 0) [] := ⟨none, 0, rfl, Nat.le_refl _, by unfold maxLen; omega, fun h => absurd h (by simp)⟩
theorem info_i1 : (Tryd.prog.info? 3).map (·.size) = some 1 := by kernel_rfl
theorem info_b1 : (Tryd.prog.info? 4).map (·.size) = some 1 := by kernel_rfl
theorem info_s1 : (Tryd.prog.info? 24).map (·.size) = some 1 := by kernel_rfl
theorem info_d1 : (Tryd.prog.info? 25).map (·.size) = some 1 := by kernel_rfl
theorem build_kind (k : Int) (w : World) : (Instr.build 27 #[(0, .int .i64 k)]).run Tryd.prog w = .ok (.agg (rowA 109 (recF { zR with kind := k } (.slice none 0 0) (.slice none 0 0)))) w := by kernel_rfl
theorem opr_build {a : Act} {w : World} {o : Oper} {K : Act → World → Prop} {Q : Exit → Act → World → Prop} {t : TypeId} {parts : Array (Nat × Operand)} {pv : Array (Nat × Value)} {v : Value} (ho : o.op = .build t parts) (hp : parts.map (fun (i, x) => (i, a.eval x)) = pv) (hr : (Instr.build t pv).run Tryd.prog w = .ok v w) (h : K (a.put o.dst v) w) : o.wp Tryd.prog a w K Q := by
  obtain ⟨dst, op, type, pos, after, guard⟩ := o
  simp only at ho
  subst ho hp
  exact opr_val (s := Instr.build t (parts.map fun (i, x) => (i, a.eval x))) rfl hr h
end Go.Proofs.YthgblcpekhiphaaDoor
/- Steps that write a block that is new. -/
namespace Go.Proofs.YthgblcpekhiphaaDoor
open Go Go.RowKit
set_option maxRecDepth 8000
theorem NewT.rt {w a b : World} {R : Nat} (h : NewT w a) (hT : RT R a b) (hR : w.heap.size ≤ R) : NewT w b := Below.trans h (hT.below.mono hR)
theorem put_all (F G : Nat → Value) : ∀ i, i < 109 → F i = if 0 ≤ i ∧ i < 0 + 109 then F (i - 0) else G i := fun i hi => by
  rw [if_pos (by omega), Nat.sub_zero]
theorem keepRow (R : Nat) (t : TypeId) (n : Nat) (Fs : Nat → Nat → Value) {wx w' : World} (hN : NewT wx w') : ∀ k, wx.rowIs R t n (Fs k) → w'.rowIs R t n (Fs k) := fun _ h => hN.row h
end Go.Proofs.YthgblcpekhiphaaDoor
/- Slices of steps that a call makes: rows of pairs, appended to, cloned. -/
namespace Go.Proofs.YthgblcpekhiphaaDoor
open Go Go.RowKit
set_option maxRecDepth 8000
/-- The cells of steps, one behind the other. -/
def pc (l : List (Int × Int)) : List Value := l.flatMap fun s => [.int .i64 s.1, .int .i64 s.2]
theorem pc_length (l : List (Int × Int)) : (pc l).length = l.length * 2 := by
  induction l with
  | nil => rfl
  | cons s l ih => simp [pc] at ih ⊢; omega
theorem pc_append (l m : List (Int × Int)) : pc (l ++ m) = pc l ++ pc m := by simp [pc]
theorem pc_get (l : List (Int × Int)) (i : Nat) (hi : i < l.length) : (pc l)[2 * i]? = some (.int .i64 (l.getD i (0, 0)).1) ∧ (pc l)[2 * i + 1]? = some (.int .i64 (l.getD i (0, 0)).2) := by
  induction l generalizing i with
  | nil => simp at hi
  | cons s l ih =>
    cases i with
    | zero => simp [pc]
    | succ i =>
      have := ih i (by simpa using hi)
      have e : pc (s :: l) = .int .i64 s.1 :: .int .i64 s.2 :: pc l := by simp [pc]
      rw [e, show 2 * (i + 1) = 2 * i + 1 + 1 by omega]
      simpa using this
theorem pc_one (l : List (Int × Int)) : ∀ u ∈ pc l, u.oneCell' = true := fun u hu => by
  simp only [pc, List.mem_flatMap] at hu
  obtain ⟨s, _, hs⟩ := hu
  simp at hs
  rcases hs with rfl | rfl <;> rfl
theorem rdP_own {W : World} {base : Nat} {v : Value} {l : List (Int × Int)} (h : W.ownsRow base 46 2 v l.length (pc l)) : RdP W v l := by
  have hc : ∀ g : Nat, v.ownBlock = some g → ∀ j u, (pc l)[j]? = some u → W.cell? ((⟨g, 0, none⟩ : Addr).add j) = some u := fun g hg => h.cells hg
  rcases h.2 with ⟨rfl, h0⟩ | ⟨g, cap, cur, rfl, _, _, hnc, hcm, _, _⟩
  · exact ⟨none, 0, by rw [h0], by omega, by unfold maxLen; omega, fun h => absurd h (by omega)⟩
  · refine ⟨some ⟨g, 0, none⟩, cap, rfl, hnc, hcm, fun _ => ⟨g, 0, rfl, fun i hi => ?_⟩⟩
    have h1 := hc g rfl _ _ (pc_get l i hi).1
    have h2 := hc g rfl _ _ (pc_get l i hi).2
    rw [Addr.add_mid] at h1 h2
    exact ⟨h1, by rw [Nat.add_assoc]; exact h2⟩
theorem info_stp : (Tryd.prog.info? 46).map (fun i => (i.zero, i.size, i.bytes)) = some (some (.agg #[.int .i64 0, .int .i64 0]), 2, 16) := by kernel_rfl
theorem info_parts2 {e : TypeId} {z : Value} {s b : Nat} (h : (Tryd.prog.info? e).map (fun i => (i.zero, i.size, i.bytes)) = some (some z, s, b)) : ∃ i0, Tryd.prog.info? e = some i0 ∧ i0.zero = some z ∧ i0.size = s ∧ i0.bytes = b := by
  cases hq : Tryd.prog.info? e with
  | none => rw [hq] at h; cases h
  | some i => rw [hq] at h; simp at h; exact ⟨i, rfl, h.1, h.2.1, h.2.2⟩
/-- A slice of steps, put behind a row of the call's own. -/
theorem run_append_steps {W : World} {base : Nat} {v u : Value} {l m : List (Int × Int)} (ho : W.ownsRow base 46 2 v l.length (pc l)) (hu : RdP W u m) (hu0 : ∀ n c, u ≠ .slice none n c) (hn : l.length + m.length ≤ 1000000) (hb : base ≤ W.heap.size) (ty : TypeId) :
    ∃ v' w', (Builtin.append_ #[24, 24] ty #[v, u]).run Tryd.prog W = .ok v' w' ∧ w'.ownsRow base 46 2 v' (l ++ m).length (pc (l ++ m)) ∧ W.grownBy w' v.ownBlock := by
  obtain ⟨A, c, rfl, h1, h2, h3⟩ := hu
  cases A with
  | none => exact absurd rfl (hu0 _ _)
  | some ad =>
    obtain ⟨i0, hi, hz0, hz1, hz2⟩ := info_parts2 info_stp
    obtain ⟨v', w', hr, ho', hg, _⟩ := run_append_own (P := Tryd.prog) (w := W) base 24 ty 46 i0 _ 2 16 Tryd.underlying24 hi hz0 hz1 hz2 rfl (by omega) v l.length (pc l) ho ad m.length c (pc m) (pc_length m) (fun j x hj => by
      have hjl : j < m.length * 2 := by have := (List.getElem?_eq_some_iff.1 hj).1; rwa [pc_length] at this
      obtain ⟨b, o, hA, hcell⟩ := h3 (by omega)
      cases hA
      have hg := pc_get m (j / 2) (by omega)
      obtain ⟨c0, c1⟩ := hcell (j / 2) (by omega)
      rw [Addr.add_mid]
      by_cases he : j % 2 = 0
      · rw [show j = 2 * (j / 2) by omega] at hj ⊢
        rw [hg.1] at hj; cases hj
        exact c0
      · rw [show j = 2 * (j / 2) + 1 by omega] at hj ⊢
        rw [hg.2] at hj; cases hj
        rw [← Nat.add_assoc]
        exact c1) (pc_one m) (by unfold maxLen; omega) (by omega) hb
    exact ⟨v', w', hr, by rw [List.length_append, pc_append]; exact ho', hg⟩
set_option maxHeartbeats 400000 in
theorem CloneS_cv (v : Value) (l : List (Int × Int)) (w : World) (h : RdP w v l) (hl : l.length ≤ 900000) : Cv 34 #[v] w (svPairs l) := by
  unfold Cv
  have hh := h
  obtain ⟨A, cap, rfl, h1, h2, h3⟩ := h
  have hq : ∀ (w : World) (a : Option Addr) (n c n' c' : Nat), (binOp .eql 24 (.slice a n c) (.slice none n' c')).run Tryd.prog w = .ok (.bool a.isNone) w := fun w a n c n' c' => Lib.run_eql_slice_nil w _ _ a n c n' c' Tryd.underlying24
  cases A with
  | none =>
    have h0 : l = [] := by
      cases l with
      | nil => rfl
      | cons b l => obtain ⟨_, _, h, _⟩ := h3 (by simp); cases h
    subst h0
    clear h3 hh
    go_enter Tryd.func34, Tryd.ntmps34
    go_wp2
    go_ret
    exact ⟨_, rfl, NewT.refl _, ⟨none, 0, rfl, Nat.le_refl _, by unfold maxLen; omega, fun h => absurd h (by simp)⟩⟩
  | some a =>
    have hN := NewT.alloc w (.cells #[] 46)
    have o0 : (w.alloc (.cells #[] 46)).ownsRow w.heap.size 46 2 (.slice (some ⟨w.heap.size, 0, none⟩) 0 0) ([] : List (Int × Int)).length (pc []) :=
      ⟨rfl, .inr ⟨w.heap.size, 0, #[], rfl, Nat.le_refl _, World.alloc_heap_new _ _, Nat.le_refl _, by unfold maxLen; omega, rfl, rfl⟩⟩
    obtain ⟨v', w', hr, ho', hg⟩ := run_append_steps o0 (hN.pairs hh) (fun n c h => by cases h) (by simp; omega) hN.out.size 24
    have hB : Below w.heap.size w w' := hN.out.grown hg hN.out.size (fun k e => by simp [Value.ownBlock] at e; omega)
    have Ho := Lib.hid ho'
    clear h3 hh hN o0 hg ho'
    go_enter Tryd.func34, Tryd.ntmps34
    go_upto_region 3 with fail
    refine wp_region_lit ?_
    iterate 2 (refine wpList_plain rfl (fun K hK => ?_); go_simp; refine hK _ _ ?_; clear hK K)
    refine wpList_plain rfl (fun K hK => ?_)
    refine opr_append rfl rfl rfl hr (hK _ _ ?_)
    clear hK K
    refine wpList_plain rfl (fun K hK => ?_)
    refine opr_move (.inr rfl) (hK _ _ ?_)
    clear hK K
    refine wpList_nil ?_
    go_simp
    go_wp2
    go_ret
    exact ⟨_, rfl, hB, rdP_own Ho.out⟩
end Go.Proofs.YthgblcpekhiphaaDoor
/- Steps that are cloned lie in memory that is new. -/
namespace Go.Proofs.YthgblcpekhiphaaDoor
open Go Go.RowKit
set_option maxRecDepth 8000
/-- Steps, in a block from B on. -/
def RdPB (w : World) (B : Nat) (v : Value) (l : List (Int × Int)) : Prop := RdP w v l ∧ (0 < l.length → ∀ a n c, v = .slice (some a) n c → B ≤ a.block)
/-- Bytes, in a block from B on. -/
def RdVB (w : World) (B : Nat) (v : Value) (l : List UInt8) : Prop := ∀ L, (∀ k ∈ L, k < B) → RdV w L v l
theorem RT.pairs {R : Nat} {w w' : World} (h : RT R w w') {v : Value} {l : List (Int × Int)} (hr : RdP w v l) (hne : 0 < l.length → ∀ a n c, v = .slice (some a) n c → a.block ≠ R) : RdP w' v l := by
  obtain ⟨A, cap, rfl, h1, h2, h3⟩ := hr
  refine ⟨A, cap, rfl, h1, h2, fun h0 => ?_⟩
  obtain ⟨b, o, rfl, hc⟩ := h3 h0
  have hb : b ≠ R := hne h0 ⟨b, o, none⟩ _ _ rfl
  exact ⟨b, o, rfl, fun i hi => ⟨h.keep.cell (a := ⟨b, o + 2 * i, none⟩) (by simpa using hb) (hc i hi).1, h.keep.cell (a := ⟨b, o + 2 * i + 1, none⟩) (by simpa using hb) (hc i hi).2⟩⟩
theorem RdPB.rt {R B : Nat} {w w' : World} {v : Value} {l : List (Int × Int)} (h : RdPB w B v l) (hT : RT R w w') (hR : R < B) : RdPB w' B v l :=
  ⟨hT.pairs h.1 fun h0 a n c e => by have := h.2 h0 a n c e; omega, h.2⟩
theorem RdPB.new {B : Nat} {w w' : World} {v : Value} {l : List (Int × Int)} (h : RdPB w B v l) (hT : NewT w w') : RdPB w' B v l := ⟨hT.pairs h.1, h.2⟩
theorem RdPB.mono {B B' : Nat} {w : World} {v : Value} {l : List (Int × Int)} (h : RdPB w B v l) (hB : B' ≤ B) : RdPB w B' v l := ⟨h.1, fun h0 a n c e => Nat.le_trans hB (h.2 h0 a n c e)⟩
theorem RdVB.rt {R B : Nat} {w w' : World} {v : Value} {l : List UInt8} (h : RdVB w B v l) (hT : RT R w w') (hR : R < B) : RdVB w' B v l := fun L hL =>
  ((h (R :: L) (fun k hk => by rcases List.mem_cons.1 hk with rfl | hk; exact hR; exact hL k hk)).keep (hT.keep.more (by simp))).less (fun k hk => by simp [hk])
theorem RdVB.new {B : Nat} {w w' : World} {v : Value} {l : List UInt8} (h : RdVB w B v l) (hT : NewT w w') : RdVB w' B v l := fun L hL => hT.rd (h L hL)
theorem RdVB.out {B : Nat} {w : World} {v : Value} {l : List UInt8} (h : RdVB w B v l) : RdV w [] v l := h [] (by simp)
theorem RdVB.mono {B B' : Nat} {w : World} {v : Value} {l : List UInt8} (h : RdVB w B v l) (hB : B' ≤ B) : RdVB w B' v l := fun L hL => h L fun k hk => Nat.lt_of_lt_of_le (hL k hk) hB
def svPairsN (B : Nat) (l : List (Int × Int)) : SV NewT := ⟨fun v w => RdPB w B v l, fun _ _ _ h hT => h.new hT⟩
def svPairsB (R : Nat) (l : List (Int × Int)) : SV (RT R) := ⟨fun v w => RdPB w (R + 1) v l, fun _ _ _ h hT => h.rt hT (Nat.lt_succ_self _)⟩
def svRdB (R : Nat) (l : List UInt8) : SV (RT R) := ⟨fun v w => RdVB w (R + 1) v l, fun _ _ _ h hT => h.rt hT (Nat.lt_succ_self _)⟩
set_option maxHeartbeats 400000 in
theorem CloneS_cvN (v : Value) (l : List (Int × Int)) (w : World) (h : RdP w v l) (hl : l.length ≤ 900000) : Cv 34 #[v] w (svPairsN w.heap.size l) := by
  unfold Cv
  have hh := h
  obtain ⟨A, cap, rfl, h1, h2, h3⟩ := h
  have hq : ∀ (w : World) (a : Option Addr) (n c n' c' : Nat), (binOp .eql 24 (.slice a n c) (.slice none n' c')).run Tryd.prog w = .ok (.bool a.isNone) w := fun w a n c n' c' => Lib.run_eql_slice_nil w _ _ a n c n' c' Tryd.underlying24
  cases A with
  | none =>
    have h0 : l = [] := by
      cases l with
      | nil => rfl
      | cons b l => obtain ⟨_, _, h, _⟩ := h3 (by simp); cases h
    subst h0
    clear h3 hh
    go_enter Tryd.func34, Tryd.ntmps34
    go_wp2
    go_ret
    exact ⟨_, rfl, NewT.refl _, ⟨none, 0, rfl, Nat.le_refl _, by unfold maxLen; omega, fun h => absurd h (by simp)⟩, fun _ a n c h => by cases h⟩
  | some a =>
    have hN := NewT.alloc w (.cells #[] 46)
    have o0 : (w.alloc (.cells #[] 46)).ownsRow w.heap.size 46 2 (.slice (some ⟨w.heap.size, 0, none⟩) 0 0) ([] : List (Int × Int)).length (pc []) :=
      ⟨rfl, .inr ⟨w.heap.size, 0, #[], rfl, Nat.le_refl _, World.alloc_heap_new _ _, Nat.le_refl _, by unfold maxLen; omega, rfl, rfl⟩⟩
    obtain ⟨v', w', hr, ho', hg⟩ := run_append_steps o0 (hN.pairs hh) (fun n c h => by cases h) (by simp; omega) hN.out.size 24
    have hB : Below w.heap.size w w' := hN.out.grown hg hN.out.size (fun k e => by simp [Value.ownBlock] at e; omega)
    have Ho := Lib.hid ho'
    clear h3 hh hN o0 hg ho'
    go_enter Tryd.func34, Tryd.ntmps34
    go_upto_region 3 with fail
    refine wp_region_lit ?_
    iterate 2 (refine wpList_plain rfl (fun K hK => ?_); go_simp; refine hK _ _ ?_; clear hK K)
    refine wpList_plain rfl (fun K hK => ?_)
    refine opr_append rfl rfl rfl hr (hK _ _ ?_)
    clear hK K
    refine wpList_plain rfl (fun K hK => ?_)
    refine opr_move (.inr rfl) (hK _ _ ?_)
    clear hK K
    refine wpList_nil ?_
    go_simp
    go_wp2
    go_ret
    refine ⟨_, rfl, hB, rdP_own Ho.out, fun _ a n c e => ?_⟩
    rcases Ho.out.2 with ⟨h, _⟩ | ⟨g, cap, cur, h, hb, _⟩
    · have e' := h.symm.trans e; cases e'
    · have e' := h.symm.trans e; cases e'; exact hb
end Go.Proofs.YthgblcpekhiphaaDoor
/- Records' bytes by their pieces; the kinds' forms. -/
namespace Go.Proofs.YthgblcpekhiphaaDoor
open Go Go.RowKit
set_option maxRecDepth 8000
def rcL (x : Rc) : List UInt8 := callL x ++ (fB x.good :: (numI x.part ++ (numI x.epoch ++ hL x.tag)))
def clL (x : Rc) : List UInt8 := numI x.saga ++ (numI x.seq ++ numI x.nd)
def roL (x : Rc) : List UInt8 := numI x.part ++ numI x.epoch
def hdL (x : Rc) : List UInt8 := numI x.saga ++ (numI x.steps.length ++ stepsL x.steps)
theorem callL_len (x : Rc) : (callL x).length ≤ 30 := by
  unfold callL
  have := numI_length x.saga; have := numI_length x.seq; have := numI_length x.step; have := numI_length x.tr
  simp; omega
theorem rcL_len (x : Rc) : (rcL x).length ≤ 80 := by
  unfold rcL
  have := callL_len x; have := numI_length x.part; have := numI_length x.epoch
  simp [hL_length]; omega
theorem clL_len (x : Rc) : (clL x).length ≤ 80 := by
  unfold clL
  have := numI_length x.saga; have := numI_length x.seq; have := numI_length x.nd
  simp; omega
theorem roL_len (x : Rc) : (roL x).length ≤ 80 := by
  unfold roL
  have := numI_length x.part; have := numI_length x.epoch
  simp; omega
theorem stepsL_len (l : List (Int × Int)) : (stepsL l).length ≤ 10 * l.length := by
  induction l with
  | nil => simp [stepsL]
  | cons s l ih =>
    have e : stepsL (s :: l) = numI s.1 ++ numI s.2 ++ stepsL l := by simp [stepsL]
    have := numI_length s.1; have := numI_length s.2
    rw [e]; simp; omega
theorem hdL_len (x : Rc) (h : x.steps.length ≤ 30) : (hdL x).length ≤ 400 := by
  unfold hdL
  have := numI_length x.saga; have := numI_length x.steps.length; have := stepsL_len x.steps
  simp; omega
theorem stepsL_next (l : List (Int × Int)) (k : Nat) (hk : k < l.length) : stepsL (l.take (k + 1)) = stepsL (l.take k) ++ (numI (l.getD k (0, 0)).1 ++ numI (l.getD k (0, 0)).2) := by
  have e : l.take (k + 1) = l.take k ++ [l.getD k (0, 0)] := by rw [List.take_add_one, List.getElem?_eq_getElem hk]; simp [List.getD, hk]
  rw [e]; simp [stepsL]
theorem digL_hL (d : Nat → UInt8) : digL d = hL d := rfl
theorem sealed_1 (x : Rc) (h : rightB x = true) (hk : x.kind = 1) : numI x.kind ++ (hdL x ++ hL (comC x)) = sealedB x := by
  unfold sealedB sealedL tailL hdL comC; rw [if_pos h, if_pos hk]; simp
theorem open_1 (x : Rc) (h : rightB x = true) (hk : x.kind = 1) : numI x.kind ++ (hdL x ++ payL x) = openB x := by
  unfold openB openL tailL hdL; rw [if_pos h, if_pos hk]; simp
theorem tail_2 (x : Rc) (c : List UInt8) (hk : x.kind = 2 ∨ x.kind = 4) : tailL x c = callL x := by unfold tailL; rw [if_neg (by omega), if_pos hk]
theorem tail_3 (x : Rc) (c : List UInt8) (hk : x.kind = 3) : tailL x c = rcL x := by unfold tailL rcL; rw [if_neg (by omega), if_neg (by omega), if_pos hk]
theorem tail_5 (x : Rc) (c : List UInt8) (hk : x.kind = 5) : tailL x c = clL x := by unfold tailL clL; rw [if_neg (by omega), if_neg (by omega), if_neg (by omega), if_pos hk]
theorem tail_6 (x : Rc) (c : List UInt8) (hk : x.kind = 6) : tailL x c = roL x := by unfold tailL roL; rw [if_neg (by omega), if_neg (by omega), if_neg (by omega), if_neg (by omega)]
theorem sealed_o (x : Rc) (l : List UInt8) (h : rightB x = true) (hl : ∀ c, tailL x c = l) : numI x.kind ++ l = sealedB x := by
  unfold sealedB sealedL; rw [if_pos h, hl]
theorem open_o (x : Rc) (l : List UInt8) (h : rightB x = true) (hl : ∀ c, tailL x c = l) : numI x.kind ++ l = openB x := by
  unfold openB openL; rw [if_pos h, hl]
/-- A function, as a value. -/
def fnV (k : Nat) : Value := .func (.func k) #[] #[]
/-- The kinds' forms. -/
def formL : List Value := [.nilFunc, .nilFunc, .nilFunc, fnV 55, fnV 56, fnV 57, fnV 58, fnV 58, fnV 59, fnV 60, fnV 60, fnV 61,
  fnV 58, fnV 58, fnV 59, fnV 62, fnV 62, fnV 63, fnV 64, fnV 64, fnV 65]
def formF (i : Nat) : Value := formL.getD i .nilFunc
theorem formF_one (i : Nat) : (formF i).oneCell' = true := by
  unfold formF
  have h : ∀ v ∈ formL, v.oneCell' = true := by decide
  cases hv : formL[i]? with
  | none => simp [List.getD, hv]; rfl
  | some v => simp [List.getD, hv]; exact h v (List.mem_of_getElem? hv)
theorem info_forms : (Tryd.prog.info? 57).map (·.size) = some 21 := by kernel_rfl
section
variable {a : Act} {w : World} {o : Oper} {K : Act → World → Prop} {Q : Exit → Act → World → Prop} {x y : Operand}
theorem opr_idx {t : TypeId} {vx vy v : Value} (ho : o.op = .index t x y) (hx : a.eval x = vx) (hy : a.eval y = vy) (hr : (Instr.index t vx vy).run Tryd.prog w = .ok v w) (h : K (a.put o.dst v) w) : o.wp Tryd.prog a w K Q := by
  obtain ⟨dst, op, type, pos, after, guard⟩ := o
  simp only at ho
  subst ho hx hy
  exact opr_val (s := Instr.index t (a.eval x) (a.eval y)) rfl hr h
theorem opr_fieldv {t : TypeId} {k : Nat} {vx v : Value} (ho : o.op = .field t x k) (hx : a.eval x = vx) (hr : (Instr.field t vx k).run Tryd.prog w = .ok v w) (h : K (a.put o.dst v) w) : o.wp Tryd.prog a w K Q := by
  obtain ⟨dst, op, type, pos, after, guard⟩ := o
  simp only at ho
  subst ho hx
  exact opr_val (s := Instr.field t (a.eval x) k) rfl hr h
end
theorem idx_1 (w : World) : (Instr.index 57 (.agg (rowA 21 formF)) (.int .i64 1)).run Tryd.prog w = .ok (.agg (rowA 3 fun j => formF (3 + j))) w := by kernel_rfl
theorem idx_2 (w : World) : (Instr.index 57 (.agg (rowA 21 formF)) (.int .i64 2)).run Tryd.prog w = .ok (.agg (rowA 3 fun j => formF (6 + j))) w := by kernel_rfl
theorem idx_3 (w : World) : (Instr.index 57 (.agg (rowA 21 formF)) (.int .i64 3)).run Tryd.prog w = .ok (.agg (rowA 3 fun j => formF (9 + j))) w := by kernel_rfl
theorem idx_4 (w : World) : (Instr.index 57 (.agg (rowA 21 formF)) (.int .i64 4)).run Tryd.prog w = .ok (.agg (rowA 3 fun j => formF (12 + j))) w := by kernel_rfl
theorem idx_5 (w : World) : (Instr.index 57 (.agg (rowA 21 formF)) (.int .i64 5)).run Tryd.prog w = .ok (.agg (rowA 3 fun j => formF (15 + j))) w := by kernel_rfl
theorem idx_6 (w : World) : (Instr.index 57 (.agg (rowA 21 formF)) (.int .i64 6)).run Tryd.prog w = .ok (.agg (rowA 3 fun j => formF (18 + j))) w := by kernel_rfl
theorem fldv_0 (f : Nat → Value) (v : Value) (hv : f 0 = v) (w : World) : (Instr.field 56 (.agg (rowA 3 f)) 0).run Tryd.prog w = .ok v w := by
  have h : (Instr.field 56 (.agg (rowA 3 f)) 0).run Tryd.prog w = .ok (f 0) w := by kernel_rfl
  rw [h, hv]
theorem fldv_1 (f : Nat → Value) (v : Value) (hv : f 1 = v) (w : World) : (Instr.field 56 (.agg (rowA 3 f)) 1).run Tryd.prog w = .ok v w := by
  have h : (Instr.field 56 (.agg (rowA 3 f)) 1).run Tryd.prog w = .ok (f 1) w := by kernel_rfl
  rw [h, hv]
theorem fldv_2 (f : Nat → Value) (v : Value) (hv : f 2 = v) (w : World) : (Instr.field 56 (.agg (rowA 3 f)) 2).run Tryd.prog w = .ok v w := by
  have h : (Instr.field 56 (.agg (rowA 3 f)) 2).run Tryd.prog w = .ok (f 2) w := by kernel_rfl
  rw [h, hv]
end Go.Proofs.YthgblcpekhiphaaDoor
/- What a reader reads of what was put, thing by thing; lists that lie outside some blocks. -/
namespace Go.Proofs.YthgblcpekhiphaaDoor
open Go Go.RowKit
set_option maxRecDepth 8000
theorem RNum_put (R : Nat) (n : Int) (r : List UInt8) (w : World) (h : Rdr w R (numI n ++ r) 0) (hn : 0 ≤ n ∧ n ≤ 2147483647) (hl : r.length ≤ 900000) :
    Calls Tryd.prog 44 #[.pointer (some ⟨R, 0, none⟩)] w fun ev w' => ev = .returned (.int .i64 n) ∧ RT R w w' ∧ Rdr w' R r 0 := by
  obtain ⟨m, rfl⟩ := Int.eq_ofNat_of_zero_le hn.1
  have hm : m ≤ 2147483647 := by omega
  rw [numI_nat m hm] at h
  have := RNum_good R _ w h (by have := numL_length m; have := sz_le m; simp; omega)
  rw [outN_put m hm r] at this
  exact this
theorem RFlag_put (R : Nat) (b : Bool) (r : List UInt8) (w : World) (h : Rdr w R (fB b :: r) 0) (hl : r.length ≤ 900000) :
    Calls Tryd.prog 80 #[.pointer (some ⟨R, 0, none⟩)] w fun ev w' => ev = .returned (.bool b) ∧ RT R w w' ∧ Rdr w' R r 0 := by
  have := RFlag_good R _ w h (by simp; omega)
  rw [show fB b :: r = cond b 1 0 :: r from rfl, outQ_put b r] at this
  exact this
theorem RHash_put (R : Nat) (d : Nat → UInt8) (r : List UInt8) (w : World) (h : Rdr w R (hL d ++ r) 0) :
    Calls Tryd.prog 81 #[.pointer (some ⟨R, 0, none⟩)] w fun ev w' => ev = .returned (.agg (rowA 32 (bF d))) ∧ RT R w w' ∧ Rdr w' R r 0 := by
  have := RHash_good R _ w h
  obtain ⟨h1, h2⟩ := outH_put d r
  rw [digL_hL] at h1 h2
  rw [h2, h1] at this
  exact this
theorem outB_put2 (l r : List UInt8) (most : Int) (hl : l.length ≤ 1000000) (hm : (l.length : Int) ≤ most) : outB (numL l.length ++ l ++ r) most = (l, r, 0) := by
  have hg := goN_put l.length (by omega) (l ++ r)
  rw [← List.append_assoc] at hg
  have hd : (numL l.length ++ l ++ r).drop (sz l.length) = l ++ r := by
    rw [List.append_assoc, ← numL_length l.length]; simp
  have hB : goB (numL l.length ++ l ++ r) most = (l, sz l.length + l.length, 0) := by
    unfold goB
    rw [hg]
    simp only
    rw [if_neg (by simp), if_neg (by omega), if_neg (by simp [numL_length]), hd]
    simp
  unfold outB
  rw [hB]
  simp only [if_true]
  rw [← List.drop_drop, hd]
  simp
theorem RBytes_put (R : Nat) (l r : List UInt8) (most : Int) (w : World) (h : Rdr w R (numI l.length ++ (l ++ r)) 0) (hm : (l.length : Int) ≤ most) (hl : l.length ≤ 1000) (hr : r.length ≤ 900000) :
    Calls Tryd.prog 82 #[.pointer (some ⟨R, 0, none⟩), .int .i64 most] w fun ev w' => ∃ u, ev = .returned u ∧ RdVB w' w.heap.size u l ∧ RT R w w' ∧ Rdr w' R r 0 := by
  rw [numI_nat l.length (by omega), ← List.append_assoc] at h
  have := RBytes_good R most _ w h (by have := numL_length l.length; have := sz_le l.length; simp; omega)
  rw [outB_put2 l r most (by omega) hm] at this
  exact this
/-- Steps outside the blocks of L. -/
def RdPL (w : World) (L : List Nat) (v : Value) (l : List (Int × Int)) : Prop := RdP w v l ∧ (0 < l.length → ∀ a n c, v = .slice (some a) n c → a.block ∉ L)
theorem RdPL.keep {w w' : World} {L : List Nat} {v : Value} {l : List (Int × Int)} (h : RdPL w L v l) (hK : KeepBut L w w') : RdPL w' L v l := by
  obtain ⟨⟨A, cap, rfl, h1, h2, h3⟩, hn⟩ := h
  refine ⟨⟨A, cap, rfl, h1, h2, fun h0 => ?_⟩, hn⟩
  obtain ⟨b, o, rfl, hc⟩ := h3 h0
  have hb : b ∉ L := hn h0 ⟨b, o, none⟩ _ _ rfl
  exact ⟨b, o, rfl, fun i hi => ⟨hK.cell (a := ⟨b, o + 2 * i, none⟩) hb (hc i hi).1, hK.cell (a := ⟨b, o + 2 * i + 1, none⟩) hb (hc i hi).2⟩⟩
theorem RdPL.new {w w' : World} {L : List Nat} {v : Value} {l : List (Int × Int)} (h : RdPL w L v l) (hN : NewT w w') : RdPL w' L v l := ⟨hN.pairs h.1, h.2⟩
theorem RdPL.rt {w w' : World} {L : List Nat} {v : Value} {l : List (Int × Int)} {R : Nat} (h : RdPL w L v l) (hT : RT R w w') (hR : R ∈ L) : RdPL w' L v l := h.keep (hT.keep.more (by simpa using hR))
theorem RdPL.more {w : World} {L : List Nat} {v : Value} {l : List (Int × Int)} (h : RdPL w L v l) {g : Nat} (hg : w.heap.size ≤ g) : RdPL w (g :: L) v l := by
  refine ⟨h.1, fun h0 a n c e => ?_⟩
  have h2 := h.2 h0 a n c e
  obtain ⟨A, cap, rfl, h1, h2', h3⟩ := h.1
  obtain ⟨b, o, rfl, hc⟩ := h3 h0
  cases e
  have := World.block_lt_of_cell? _ _ (hc 0 h0).1
  simp at this h2 ⊢
  exact ⟨by omega, h2⟩
theorem RdPB.list {w : World} {B : Nat} {L : List Nat} {v : Value} {l : List (Int × Int)} (h : RdPB w B v l) (hL : ∀ k ∈ L, k < B) : RdPL w L v l :=
  ⟨h.1, fun h0 a n c e hm => by have := h.2 h0 a n c e; have := hL _ hm; omega⟩
theorem RdV.rt {w w' : World} {L : List Nat} {v : Value} {l : List UInt8} {R : Nat} (h : RdV w L v l) (hT : RT R w w') (hR : R ∈ L) : RdV w' L v l := h.keep (hT.keep.more (by simpa using hR))
theorem ownsRow_rt {w w' : World} {R base : Nat} {e : TypeId} {size n : Nat} {v : Value} {xs : List Value} (h : w.ownsRow base e size v n xs) (hT : RT R w w') (hR : R < base) : w'.ownsRow base e size v n xs := by
  obtain ⟨a, b⟩ := h
  refine ⟨a, ?_⟩
  rcases b with b | ⟨g, cap, cur, rfl, hb, hg, r⟩
  · exact .inl b
  · exact .inr ⟨g, cap, cur, rfl, hb, hT.keep.2 g _ (by simp; omega) hg rfl, r⟩
theorem ownsRow_new {w w' : World} {base : Nat} {e : TypeId} {size n : Nat} {v : Value} {xs : List Value} (h : w.ownsRow base e size v n xs) (hT : NewT w w') : w'.ownsRow base e size v n xs := by
  obtain ⟨a, b⟩ := h
  refine ⟨a, ?_⟩
  rcases b with b | ⟨g, cap, cur, rfl, hb, hg, r⟩
  · exact .inl b
  · have hlt : g < w.heap.size := by
      rcases Nat.lt_or_ge g w.heap.size with h | h
      · exact h
      · rw [Array.getElem?_eq_none h] at hg; cases hg
    exact .inr ⟨g, cap, cur, rfl, hb, (hT.out.block g hlt).trans hg, r⟩
/-- A step that writes a block that came behind W. -/
theorem RT.late2 {R g : Nat} {W w w' : World} (h : RT R W w) (hg : W.heap.size ≤ g) (hR : R < W.heap.size) (hT : RT g w w') : RT R W w' := RT.late h hg hR hT.keep fun _ hB => hT.below.mono hB
theorem Rdr.rt {w w' : World} {R g : Nat} {l : List UInt8} {e : Int} (h : Rdr w R l e) (hT : RT g w w') (hg : R < g) : Rdr w' R l e := h.keep (G := [g]) (by simpa using hg) hT.keep
end Go.Proofs.YthgblcpekhiphaaDoor
/- Package rec: ranges; steps; slices compared. -/
namespace Go.Proofs.YthgblcpekhiphaaDoor
open Go Go.RowKit
set_option maxRecDepth 8000
set_option maxHeartbeats 400000 in
theorem within_cv (n lo hi : Int) (w : World) : Cv 45 #[.int .i64 n, .int .i64 lo, .int .i64 hi] w (.eq (.bool (inR n lo hi))) := by
  unfold Cv
  go_enter Tryd.func45, Tryd.ntmps45
  go_upto_region 1 with fail
  obtain ⟨q1_1, Q1_1⟩ : ∃ q, ((decide (lo ≤ n)) && (decide (n ≤ hi))) = q := ⟨_, rfl⟩
  refine wp_region_steps0 NewT [SV.eq (.int .i64 (lo)), SV.eq (.int .i64 (n)), SV.eq (.bool (decide (lo ≤ n))), SV.eq (.bool (decide (lo ≤ n))), svIf (decide (lo ≤ n)) (SV.eq (.int .i64 (n))), svIf (decide (lo ≤ n)) (SV.eq (.int .i64 (hi))), svIf (decide (lo ≤ n)) (SV.eq (.bool (decide (n ≤ hi)))), SV.eq (.bool (q1_1)), SV.eq (.bool (q1_1))] [([(1, none)], none), ([(0, none)], none), ([(7, some 0), (8, some 1)], none), ([(9, some 2)], none), ([(0, none), (10, some 3)], some (10, true)), ([(2, none), (10, some 3)], some (10, true)), ([(11, some 4), (12, some 5), (10, some 3)], some (10, true)), ([(10, some 3), (13, some 6)], none), ([(14, some 7)], none)] 15 9 rfl rfl (by kernel_rfl) NewT.trans (NewT.refl _) (Nat.le_of_ble_eq_true rfl) ⟨?_, ?_, ?_, ?_, ?_, ?_, ?_, ?_, ?_, trivial⟩ ?_
  · intro a wx hT hF K hK
    obtain ⟨f1, _⟩ := hF
    have f1 : a.tmps.getD 1 undef = .int .i64 (lo) := f1
    refine rely_wp rfl ?_
    exact opr_move (.inl rfl) (hK _ _ (NewT.refl _) f1)
  · intro a wx hT hF K hK
    obtain ⟨f0, _⟩ := hF
    have f0 : a.tmps.getD 0 undef = .int .i64 (n) := f0
    refine rely_wp rfl ?_
    exact opr_move (.inl rfl) (hK _ _ (NewT.refl _) f0)
  · intro a wx hT hF K hK
    obtain ⟨f7, f8, _⟩ := hF
    have f7 : a.tmps.getD 7 undef = .int .i64 (lo) := f7
    have f8 : a.tmps.getD 8 undef = .int .i64 (n) := f8
    refine rely_wp rfl ?_
    exact opr_cmp (b := decide (lo ≤ n)) (.inr (.inr (.inl ⟨rfl, rfl⟩))) Tryd.underlying3 rfl f7 f8 (hK _ _ (NewT.refl _) rfl)
  · intro a wx hT hF K hK
    obtain ⟨f9, _⟩ := hF
    have f9 : a.tmps.getD 9 undef = .bool (decide (lo ≤ n)) := f9
    refine rely_wp rfl ?_
    exact opr_move (.inl rfl) (hK _ _ (NewT.refl _) f9)
  · intro a wx hT hF K hK
    obtain ⟨f0, f10, _⟩ := hF
    have f0 : a.tmps.getD 0 undef = .int .i64 (n) := f0
    have f10 : a.tmps.getD 10 undef = .bool (decide (lo ≤ n)) := f10
    refine rely_if (rely_gt f10) (NewT.refl _) hK (fun hE hK => ?_)
    exact opr_move (.inl rfl) (hK _ _ (NewT.refl _) f0)
  · intro a wx hT hF K hK
    obtain ⟨f2, f10, _⟩ := hF
    have f2 : a.tmps.getD 2 undef = .int .i64 (hi) := f2
    have f10 : a.tmps.getD 10 undef = .bool (decide (lo ≤ n)) := f10
    refine rely_if (rely_gt f10) (NewT.refl _) hK (fun hE hK => ?_)
    exact opr_move (.inl rfl) (hK _ _ (NewT.refl _) f2)
  · intro a wx hT hF K hK
    obtain ⟨f11, f12, f10, _⟩ := hF
    have f11 : (decide (lo ≤ n)) = true → a.tmps.getD 11 undef = .int .i64 (n) := f11
    have f12 : (decide (lo ≤ n)) = true → a.tmps.getD 12 undef = .int .i64 (hi) := f12
    have f10 : a.tmps.getD 10 undef = .bool (decide (lo ≤ n)) := f10
    refine rely_if (rely_gt f10) (NewT.refl _) hK (fun hE hK => ?_)
    exact opr_cmp (b := decide (n ≤ hi)) (.inr (.inr (.inl ⟨rfl, rfl⟩))) Tryd.underlying3 rfl (f11 hE) (f12 hE) (hK _ _ (NewT.refl _) rfl)
  · intro a wx hT hF K hK
    obtain ⟨f10, f13, _⟩ := hF
    have f10 : a.tmps.getD 10 undef = .bool (decide (lo ≤ n)) := f10
    have f13 : (decide (lo ≤ n)) = true → a.tmps.getD 13 undef = .bool (decide (n ≤ hi)) := f13
    refine rely_wp rfl ?_
    exact opr_pick_b rfl f10 (fun hb => hK _ _ (NewT.refl _) (pn_and1 Q1_1 (f13 hb) hb)) (fun hb => hK _ _ (NewT.refl _) (pn_and0 Q1_1 hb))
  · intro a wx hT hF K hK
    obtain ⟨f14, _⟩ := hF
    have f14 : a.tmps.getD 14 undef = .bool (q1_1) := f14
    refine rely_wp rfl ?_
    exact opr_move (.inr rfl) (hK _ _ (NewT.refl _) f14)
  · intro wx hT
    intro u h; obtain rfl := Eq.symm (h (by simp)); clear h
    intro u h; obtain rfl := Eq.symm (h (by simp)); clear h
    intro u h; obtain rfl := Eq.symm (h (by simp)); clear h
    intro u h; obtain rfl := Eq.symm (h (by simp)); clear h
    intro _ _
    intro _ _
    intro _ _
    intro u h; obtain rfl := Eq.symm (h (by simp)); clear h
    intro u h; obtain rfl := Eq.symm (h (by simp)); clear h
    subst Q1_1
    refine relyEnd_nil rfl ?_
    refine wpList_end rfl ?_
    simp only [Act.put, List.setIfInBounds_toArray, List.set_cons_zero, List.set_cons_succ]
    go_simp
    go_wp2
    go_ret
    exact ⟨_, rfl, hT, rfl⟩
set_option maxHeartbeats 400000 in
theorem refIn_cv (n lo hi : Int) (w : World) : Cv 30 #[.int .i64 n, .int .i64 lo, .int .i64 hi] w (.eq (.bool (inR n lo hi))) := by
  unfold Cv
  go_enter Tryd.func30, Tryd.ntmps30
  go_upto_region 1 with fail
  obtain ⟨q1_1, Q1_1⟩ : ∃ q, ((decide (lo ≤ n)) && (decide (n ≤ hi))) = q := ⟨_, rfl⟩
  refine wp_region_steps0 NewT [SV.eq (.int .i64 (n)), SV.eq (.int .i64 (lo)), SV.eq (.bool (decide (lo ≤ n))), SV.eq (.bool (decide (lo ≤ n))), svIf (decide (lo ≤ n)) (SV.eq (.int .i64 (n))), svIf (decide (lo ≤ n)) (SV.eq (.int .i64 (hi))), svIf (decide (lo ≤ n)) (SV.eq (.bool (decide (n ≤ hi)))), SV.eq (.bool (q1_1)), SV.eq (.bool (q1_1))] [([(0, none)], none), ([(1, none)], none), ([(7, some 0), (8, some 1)], none), ([(9, some 2)], none), ([(0, none), (10, some 3)], some (10, true)), ([(2, none), (10, some 3)], some (10, true)), ([(11, some 4), (12, some 5), (10, some 3)], some (10, true)), ([(10, some 3), (13, some 6)], none), ([(14, some 7)], none)] 15 9 rfl rfl (by kernel_rfl) NewT.trans (NewT.refl _) (Nat.le_of_ble_eq_true rfl) ⟨?_, ?_, ?_, ?_, ?_, ?_, ?_, ?_, ?_, trivial⟩ ?_
  · intro a wx hT hF K hK
    obtain ⟨f0, _⟩ := hF
    have f0 : a.tmps.getD 0 undef = .int .i64 (n) := f0
    refine rely_wp rfl ?_
    exact opr_move (.inl rfl) (hK _ _ (NewT.refl _) f0)
  · intro a wx hT hF K hK
    obtain ⟨f1, _⟩ := hF
    have f1 : a.tmps.getD 1 undef = .int .i64 (lo) := f1
    refine rely_wp rfl ?_
    exact opr_move (.inl rfl) (hK _ _ (NewT.refl _) f1)
  · intro a wx hT hF K hK
    obtain ⟨f7, f8, _⟩ := hF
    have f7 : a.tmps.getD 7 undef = .int .i64 (n) := f7
    have f8 : a.tmps.getD 8 undef = .int .i64 (lo) := f8
    refine rely_wp rfl ?_
    exact opr_cmp (b := decide (lo ≤ n)) (.inr (.inr (.inr (.inr (.inr (⟨rfl, rfl⟩)))))) Tryd.underlying3 rfl f7 f8 (hK _ _ (NewT.refl _) rfl)
  · intro a wx hT hF K hK
    obtain ⟨f9, _⟩ := hF
    have f9 : a.tmps.getD 9 undef = .bool (decide (lo ≤ n)) := f9
    refine rely_wp rfl ?_
    exact opr_move (.inl rfl) (hK _ _ (NewT.refl _) f9)
  · intro a wx hT hF K hK
    obtain ⟨f0, f10, _⟩ := hF
    have f0 : a.tmps.getD 0 undef = .int .i64 (n) := f0
    have f10 : a.tmps.getD 10 undef = .bool (decide (lo ≤ n)) := f10
    refine rely_if (rely_gt f10) (NewT.refl _) hK (fun hE hK => ?_)
    exact opr_move (.inl rfl) (hK _ _ (NewT.refl _) f0)
  · intro a wx hT hF K hK
    obtain ⟨f2, f10, _⟩ := hF
    have f2 : a.tmps.getD 2 undef = .int .i64 (hi) := f2
    have f10 : a.tmps.getD 10 undef = .bool (decide (lo ≤ n)) := f10
    refine rely_if (rely_gt f10) (NewT.refl _) hK (fun hE hK => ?_)
    exact opr_move (.inl rfl) (hK _ _ (NewT.refl _) f2)
  · intro a wx hT hF K hK
    obtain ⟨f11, f12, f10, _⟩ := hF
    have f11 : (decide (lo ≤ n)) = true → a.tmps.getD 11 undef = .int .i64 (n) := f11
    have f12 : (decide (lo ≤ n)) = true → a.tmps.getD 12 undef = .int .i64 (hi) := f12
    have f10 : a.tmps.getD 10 undef = .bool (decide (lo ≤ n)) := f10
    refine rely_if (rely_gt f10) (NewT.refl _) hK (fun hE hK => ?_)
    exact opr_cmp (b := decide (n ≤ hi)) (.inr (.inr (.inl ⟨rfl, rfl⟩))) Tryd.underlying3 rfl (f11 hE) (f12 hE) (hK _ _ (NewT.refl _) rfl)
  · intro a wx hT hF K hK
    obtain ⟨f10, f13, _⟩ := hF
    have f10 : a.tmps.getD 10 undef = .bool (decide (lo ≤ n)) := f10
    have f13 : (decide (lo ≤ n)) = true → a.tmps.getD 13 undef = .bool (decide (n ≤ hi)) := f13
    refine rely_wp rfl ?_
    exact opr_pick_b rfl f10 (fun hb => hK _ _ (NewT.refl _) (pn_and1 Q1_1 (f13 hb) hb)) (fun hb => hK _ _ (NewT.refl _) (pn_and0 Q1_1 hb))
  · intro a wx hT hF K hK
    obtain ⟨f14, _⟩ := hF
    have f14 : a.tmps.getD 14 undef = .bool (q1_1) := f14
    refine rely_wp rfl ?_
    exact opr_move (.inr rfl) (hK _ _ (NewT.refl _) f14)
  · intro wx hT
    intro u h; obtain rfl := Eq.symm (h (by simp)); clear h
    intro u h; obtain rfl := Eq.symm (h (by simp)); clear h
    intro u h; obtain rfl := Eq.symm (h (by simp)); clear h
    intro u h; obtain rfl := Eq.symm (h (by simp)); clear h
    intro _ _
    intro _ _
    intro _ _
    intro u h; obtain rfl := Eq.symm (h (by simp)); clear h
    intro u h; obtain rfl := Eq.symm (h (by simp)); clear h
    subst Q1_1
    refine relyEnd_nil rfl ?_
    refine wpList_end rfl ?_
    simp only [Act.put, List.setIfInBounds_toArray, List.set_cons_zero, List.set_cons_succ]
    go_simp
    go_wp2
    go_ret
    exact ⟨_, rfl, hT, rfl⟩
set_option maxHeartbeats 400000 in
theorem isSaga_cv (n : Int) (w : World) : Cv 48 #[.int .i64 n] w (.eq (.bool (inR n 0 11))) := by
  unfold Cv
  go_enter Tryd.func48, Tryd.ntmps48
  go_upto_region 1 with fail
  refine wp_region_steps0 NewT [SV.eq (.int .i64 (n)), SV.eq (.bool (inR n 0 11)), SV.eq (.bool (inR n 0 11))] [([(0, none)], none), ([(3, some 0)], none), ([(4, some 1)], none)] 5 3 rfl rfl (by kernel_rfl) NewT.trans (NewT.refl _) (Nat.le_of_ble_eq_true rfl) ⟨?_, ?_, ?_, trivial⟩ ?_
  · intro a wx hT hF K hK
    obtain ⟨f0, _⟩ := hF
    have f0 : a.tmps.getD 0 undef = .int .i64 (n) := f0
    refine rely_wp rfl ?_
    exact opr_move (.inl rfl) (hK _ _ (NewT.refl _) f0)
  · intro a wx hT hF K hK
    obtain ⟨f3, _⟩ := hF
    have f3 : a.tmps.getD 3 undef = .int .i64 (n) := f3
    refine rely_wp rfl ?_
    exact opr_cv (within_cv n 0 11 wx) rfl Tryd.func45 (by kernel_rfl) (by kernel_rfl) (by simp only [List.map_toArray, List.map_cons, List.map_nil, eval_tmp, eval_const, f3]) hK
  · intro a wx hT hF K hK
    obtain ⟨f4, _⟩ := hF
    have f4 : a.tmps.getD 4 undef = .bool (inR n 0 11) := f4
    refine rely_wp rfl ?_
    exact opr_move (.inr rfl) (hK _ _ (NewT.refl _) f4)
  · intro wx hT
    intro u h; obtain rfl := Eq.symm (h (by simp)); clear h
    intro u h; obtain rfl := Eq.symm (h (by simp)); clear h
    intro u h; obtain rfl := Eq.symm (h (by simp)); clear h
    refine relyEnd_nil rfl ?_
    refine wpList_end rfl ?_
    simp only [Act.put, List.setIfInBounds_toArray, List.set_cons_zero, List.set_cons_succ]
    go_simp
    go_wp2
    go_ret
    exact ⟨_, rfl, hT, rfl⟩
set_option maxHeartbeats 400000 in
theorem isSeq_cv (n : Int) (w : World) : Cv 51 #[.int .i64 n] w (.eq (.bool (inR n 1 400))) := by
  unfold Cv
  go_enter Tryd.func51, Tryd.ntmps51
  go_upto_region 1 with fail
  refine wp_region_steps0 NewT [SV.eq (.int .i64 (n)), SV.eq (.bool (inR n 1 400)), SV.eq (.bool (inR n 1 400))] [([(0, none)], none), ([(3, some 0)], none), ([(4, some 1)], none)] 5 3 rfl rfl (by kernel_rfl) NewT.trans (NewT.refl _) (Nat.le_of_ble_eq_true rfl) ⟨?_, ?_, ?_, trivial⟩ ?_
  · intro a wx hT hF K hK
    obtain ⟨f0, _⟩ := hF
    have f0 : a.tmps.getD 0 undef = .int .i64 (n) := f0
    refine rely_wp rfl ?_
    exact opr_move (.inl rfl) (hK _ _ (NewT.refl _) f0)
  · intro a wx hT hF K hK
    obtain ⟨f3, _⟩ := hF
    have f3 : a.tmps.getD 3 undef = .int .i64 (n) := f3
    refine rely_wp rfl ?_
    exact opr_cv (within_cv n 1 400 wx) rfl Tryd.func45 (by kernel_rfl) (by kernel_rfl) (by simp only [List.map_toArray, List.map_cons, List.map_nil, eval_tmp, eval_const, f3]) hK
  · intro a wx hT hF K hK
    obtain ⟨f4, _⟩ := hF
    have f4 : a.tmps.getD 4 undef = .bool (inR n 1 400) := f4
    refine rely_wp rfl ?_
    exact opr_move (.inr rfl) (hK _ _ (NewT.refl _) f4)
  · intro wx hT
    intro u h; obtain rfl := Eq.symm (h (by simp)); clear h
    intro u h; obtain rfl := Eq.symm (h (by simp)); clear h
    intro u h; obtain rfl := Eq.symm (h (by simp)); clear h
    refine relyEnd_nil rfl ?_
    refine wpList_end rfl ?_
    simp only [Act.put, List.setIfInBounds_toArray, List.set_cons_zero, List.set_cons_succ]
    go_simp
    go_wp2
    go_ret
    exact ⟨_, rfl, hT, rfl⟩
set_option maxHeartbeats 400000 in
theorem isPart_cv (n : Int) (w : World) : Cv 50 #[.int .i64 n] w (.eq (.bool (inR n 0 3))) := by
  unfold Cv
  go_enter Tryd.func50, Tryd.ntmps50
  go_upto_region 1 with fail
  refine wp_region_steps0 NewT [SV.eq (.int .i64 (n)), SV.eq (.bool (inR n 0 3)), SV.eq (.bool (inR n 0 3))] [([(0, none)], none), ([(3, some 0)], none), ([(4, some 1)], none)] 5 3 rfl rfl (by kernel_rfl) NewT.trans (NewT.refl _) (Nat.le_of_ble_eq_true rfl) ⟨?_, ?_, ?_, trivial⟩ ?_
  · intro a wx hT hF K hK
    obtain ⟨f0, _⟩ := hF
    have f0 : a.tmps.getD 0 undef = .int .i64 (n) := f0
    refine rely_wp rfl ?_
    exact opr_move (.inl rfl) (hK _ _ (NewT.refl _) f0)
  · intro a wx hT hF K hK
    obtain ⟨f3, _⟩ := hF
    have f3 : a.tmps.getD 3 undef = .int .i64 (n) := f3
    refine rely_wp rfl ?_
    exact opr_cv (within_cv n 0 3 wx) rfl Tryd.func45 (by kernel_rfl) (by kernel_rfl) (by simp only [List.map_toArray, List.map_cons, List.map_nil, eval_tmp, eval_const, f3]) hK
  · intro a wx hT hF K hK
    obtain ⟨f4, _⟩ := hF
    have f4 : a.tmps.getD 4 undef = .bool (inR n 0 3) := f4
    refine rely_wp rfl ?_
    exact opr_move (.inr rfl) (hK _ _ (NewT.refl _) f4)
  · intro wx hT
    intro u h; obtain rfl := Eq.symm (h (by simp)); clear h
    intro u h; obtain rfl := Eq.symm (h (by simp)); clear h
    intro u h; obtain rfl := Eq.symm (h (by simp)); clear h
    refine relyEnd_nil rfl ?_
    refine wpList_end rfl ?_
    simp only [Act.put, List.setIfInBounds_toArray, List.set_cons_zero, List.set_cons_succ]
    go_simp
    go_wp2
    go_ret
    exact ⟨_, rfl, hT, rfl⟩
set_option maxHeartbeats 400000 in
theorem isStep_cv (s : Int × Int) (w : World) : Cv 68 #[.agg (rowA 2 (stepF s))] w (.eq (.bool (stepOk s))) := by
  unfold Cv
  go_enter Tryd.func68, Tryd.ntmps68
  go_upto_region 1 with fail
  have r1 := rowIs_box w 46 2 (stepF s)
  have hN := NewT.alloc w (.cells (rowA 2 (stepF s)) 46)
  change Code.wp _ _ _ _ (w.alloc (.cells (rowA 2 (stepF s)) 46))
  generalize w.alloc (.cells (rowA 2 (stepF s)) 46) = W0 at r1 hN ⊢
  have R1 := Lib.hid r1
  have HN := Lib.hid hN
  clear r1 hN
  refine wp_region_steps0 NewT [SV.eq (.pointer (some ⟨w.heap.size, 0 + 0, none⟩)), SV.eq (.int .i64 (s.1)), SV.eq (.bool (inR s.1 0 3)), SV.eq (.bool (inR s.1 0 3)), svIf (inR s.1 0 3) (SV.eq (.pointer (some ⟨w.heap.size, 0 + 1, none⟩))), svIf (inR s.1 0 3) (SV.eq (.int .i64 (s.2))), svIf (inR s.1 0 3) (SV.eq (.bool (inR s.2 1 3))), SV.eq (.bool ((inR s.1 0 3) && (inR s.2 1 3))), SV.eq (.bool ((inR s.1 0 3) && (inR s.2 1 3)))] [([(1, none)], none), ([(3, some 0)], none), ([(4, some 1)], none), ([(5, some 2)], none), ([(1, none), (6, some 3)], some (6, true)), ([(7, some 4), (6, some 3)], some (6, true)), ([(8, some 5), (6, some 3)], some (6, true)), ([(6, some 3), (9, some 6)], none), ([(10, some 7)], none)] 11 9 rfl rfl (by kernel_rfl) NewT.trans (NewT.refl _) (Nat.le_of_ble_eq_true rfl) ⟨?_, ?_, ?_, ?_, ?_, ?_, ?_, ?_, ?_, trivial⟩ ?_
  · intro a wx hT hF K hK
    obtain ⟨f1, _⟩ := hF
    have f1 : a.tmps.getD 1 undef = .pointer (some ⟨w.heap.size, 0, none⟩) := f1
    refine rely_wp rfl ?_
    exact opr_fldS (by decide) rfl f1 (hK _ _ (NewT.refl _) rfl)
  · intro a wx hT hF K hK
    obtain ⟨f3, _⟩ := hF
    have f3 : a.tmps.getD 3 undef = .pointer (some ⟨w.heap.size, 0 + 0, none⟩) := f3
    refine rely_wp rfl ?_
    exact opr_ldI (hT.row R1.out) (by decide) rfl rfl f3 (hK _ _ (NewT.refl _) rfl)
  · intro a wx hT hF K hK
    obtain ⟨f4, _⟩ := hF
    have f4 : a.tmps.getD 4 undef = .int .i64 (s.1) := f4
    refine rely_wp rfl ?_
    exact opr_cv (isPart_cv s.1 wx) rfl Tryd.func50 (by kernel_rfl) (by kernel_rfl) (by simp only [List.map_toArray, List.map_cons, List.map_nil, eval_tmp, f4]) hK
  · intro a wx hT hF K hK
    obtain ⟨f5, _⟩ := hF
    have f5 : a.tmps.getD 5 undef = .bool (inR s.1 0 3) := f5
    refine rely_wp rfl ?_
    exact opr_move (.inl rfl) (hK _ _ (NewT.refl _) f5)
  · intro a wx hT hF K hK
    obtain ⟨f1, f6, _⟩ := hF
    have f1 : a.tmps.getD 1 undef = .pointer (some ⟨w.heap.size, 0, none⟩) := f1
    have f6 : a.tmps.getD 6 undef = .bool (inR s.1 0 3) := f6
    refine rely_if (rely_gt f6) (NewT.refl _) hK (fun hE hK => ?_)
    exact opr_fldS (by decide) rfl f1 (hK _ _ (NewT.refl _) rfl)
  · intro a wx hT hF K hK
    obtain ⟨f7, f6, _⟩ := hF
    have f7 : (inR s.1 0 3) = true → a.tmps.getD 7 undef = .pointer (some ⟨w.heap.size, 0 + 1, none⟩) := f7
    have f6 : a.tmps.getD 6 undef = .bool (inR s.1 0 3) := f6
    refine rely_if (rely_gt f6) (NewT.refl _) hK (fun hE hK => ?_)
    exact opr_ldI (hT.row R1.out) (by decide) rfl rfl (f7 hE) (hK _ _ (NewT.refl _) rfl)
  · intro a wx hT hF K hK
    obtain ⟨f8, f6, _⟩ := hF
    have f8 : (inR s.1 0 3) = true → a.tmps.getD 8 undef = .int .i64 (s.2) := f8
    have f6 : a.tmps.getD 6 undef = .bool (inR s.1 0 3) := f6
    refine rely_if (rely_gt f6) (NewT.refl _) hK (fun hE hK => ?_)
    exact opr_cv (within_cv s.2 1 3 wx) rfl Tryd.func45 (by kernel_rfl) (by kernel_rfl) (by simp only [List.map_toArray, List.map_cons, List.map_nil, eval_tmp, eval_const, (f8 hE)]) hK
  · intro a wx hT hF K hK
    obtain ⟨f6, f9, _⟩ := hF
    have f6 : a.tmps.getD 6 undef = .bool (inR s.1 0 3) := f6
    have f9 : (inR s.1 0 3) = true → a.tmps.getD 9 undef = .bool (inR s.2 1 3) := f9
    refine rely_wp rfl ?_
    exact opr_pick_b rfl f6 (fun hb => hK _ _ (NewT.refl _) (pk_and1 (f9 hb) hb)) (fun hb => hK _ _ (NewT.refl _) (pk_and0 hb))
  · intro a wx hT hF K hK
    obtain ⟨f10, _⟩ := hF
    have f10 : a.tmps.getD 10 undef = .bool ((inR s.1 0 3) && (inR s.2 1 3)) := f10
    refine rely_wp rfl ?_
    exact opr_move (.inr rfl) (hK _ _ (NewT.refl _) f10)
  · intro wx hT
    intro u h; obtain rfl := Eq.symm (h (by simp)); clear h
    intro u h; obtain rfl := Eq.symm (h (by simp)); clear h
    intro u h; obtain rfl := Eq.symm (h (by simp)); clear h
    intro u h; obtain rfl := Eq.symm (h (by simp)); clear h
    intro _ _
    intro _ _
    intro _ _
    intro u h; obtain rfl := Eq.symm (h (by simp)); clear h
    intro u h; obtain rfl := Eq.symm (h (by simp)); clear h
    refine relyEnd_nil rfl ?_
    refine wpList_end rfl ?_
    simp only [Act.put, List.setIfInBounds_toArray, List.set_cons_zero, List.set_cons_succ]
    go_simp
    go_wp2
    go_ret
    exact ⟨_, rfl, NewT.trans _ _ _ HN.out hT, rfl⟩
theorem all_next (l : List (Int × Int)) (k : Nat) (hk : k < l.length) : (l.take (k + 1)).all stepOk = ((l.take k).all stepOk && stepOk (l.getD k (0, 0))) := by
  have e : l.take (k + 1) = l.take k ++ [l[k]] := by rw [List.take_add_one, List.getElem?_eq_getElem hk]; rfl
  rw [e, List.all_append]
  simp [List.getD, hk]
theorem all_not (l : List (Int × Int)) (k : Nat) (hk : k < l.length) (h : stepOk (l.getD k (0, 0)) = false) : l.all stepOk = false := by
  rw [List.all_eq_false]
  refine ⟨l.getD k (0, 0), ?_, by rw [h]; simp⟩
  simp [List.getD, hk]
set_option maxHeartbeats 1000000 in
theorem areSteps_cv (v : Value) (l : List (Int × Int)) (w : World) (h : RdP w v l) : Cv 49 #[v] w (.eq (.bool (stepsOk l))) := by
  unfold Cv
  obtain ⟨A0, cap, rfl, h1, h2, h3⟩ := h
  have H3 := Lib.hid h3
  unfold maxLen at h2
  unfold stepsOk
  clear h3
  generalize hn : l.length = n at *
  have Hn := Lib.hid hn
  clear hn
  cases hin : inR (n : Int) 1 6
  · go_enter Tryd.func49, Tryd.ntmps49
    go_wp2_with (go_at_call 45; refine (within_cv n 1 6 w).eq.mono ?_; rintro _ w' ⟨rfl, hB⟩; rw [hin])
    go_ret
    exact ⟨_, rfl, hB, by rw [Bool.false_and]; rfl⟩
  rw [Bool.true_and]
  have hr := (inR_iff _ _ _).1 hin
  go_enter Tryd.func49, Tryd.ntmps49
  go_wp2_with (go_at_call 45; refine (within_cv n 1 6 w).eq.mono ?_; rintro _ w' ⟨rfl, hB⟩; rw [hin])
  go_loopw [11] (fun i wr => ∃ k : Nat, k ≤ n ∧ i = .int .i64 k ∧ Hid ((l.take k).all stepOk = true) ∧ Below w.heap.size w wr) (fun i _ => n - (intOf i).toNat)
  case atStart => exact ⟨0, by omega, rfl, Lib.hid (by simp), hB⟩
  case round =>
    clear hB hin
    obtain ⟨k, hk, rfl, Hs, qB⟩ := hrel
    by_cases hlt : k < n
    · obtain ⟨b, o, rfl, hcell⟩ := H3.out (by omega)
      obtain ⟨j0, j1⟩ := hcell k hlt
      have k0 := (qB.cell (p := ⟨b, o + 2 * k, none⟩) (World.block_lt_of_cell? _ _ j0)).trans j0
      have k1 := (qB.cell (p := ⟨b, o + 2 * k + 1, none⟩) (World.block_lt_of_cell? _ _ j1)).trans j1
      have Hal := Lib.hid (all_next l k (by rw [Hn.out]; exact hlt))
      have Hno := Lib.hid (all_not l k (by rw [Hn.out]; exact hlt))
      clear hcell j0 j1
      generalize l.getD k (0, 0) = s at k0 k1 Hal Hno
      have it : (k : Int) < (n : Int) := by omega
      cases hq : stepOk s
      · have Hq := Lib.hid hq
        clear hq
        go_upto_region 5 with fail
        refine wp_region_steps0 NewT [SV.eq (.pointer (some ⟨b, o + 2 * k, none⟩)), SV.eq (.agg (rowA 2 (stepF s)))] [([(9, none), (11, none)], none), ([(13, some 0)], none)] 19 2 rfl rfl (by kernel_rfl) NewT.trans (NewT.refl _) (Nat.le_of_ble_eq_true rfl) ⟨?_, ?_, trivial⟩ ?_
        · intro a wx hT hF K hK
          obtain ⟨f9, f11, _⟩ := hF
          have f9 : a.tmps.getD 9 undef = .slice (some ⟨b, o, none⟩) n cap := f9
          have f11 : a.tmps.getD 11 undef = .int .i64 ((k : Int)) := f11
          refine rely_wp rfl ?_
          exact opr_idxS hlt rfl f9 f11 (hK _ _ (NewT.refl _) rfl)
        · intro a wx hT hF K hK
          obtain ⟨f13, _⟩ := hF
          have f13 : a.tmps.getD 13 undef = .pointer (some ⟨b, o + 2 * k, none⟩) := f13
          refine rely_wp rfl ?_
          exact opr_ld2 ((hT.out.cell (World.block_lt_of_cell? _ _ k0)).trans k0) ((hT.out.cell (World.block_lt_of_cell? _ _ k1)).trans k1) rfl f13 (hK _ _ (NewT.refl _) rfl)
        · intro w5 h5
          intro u h; obtain rfl := Eq.symm (h (by simp)); clear h
          intro u h; obtain rfl := Eq.symm (h (by simp)); clear h
          refine relyEnd_nil rfl ?_
          simp only [Act.put, List.setIfInBounds_toArray, List.set_cons_zero, List.set_cons_succ]
          refine wpList_new (n := 2) rfl rfl rfl rfl rfl rfl (by simp) run_alloc_step info_step (stepF_one s) rfl ?_
          intro wn hNn rn
          refine wpList_end rfl ?_
          simp only [Act.put, List.setIfInBounds_toArray, List.set_cons_zero, List.set_cons_succ]
          go_simp
          clear k0 k1
          go_upto_region 6 with fail
          refine wp_region_steps0 NewT [SV.eq (.agg (rowA 2 (stepF s))), SV.eq (.bool false), SV.eq (.bool true)] [([(4, none)], none), ([(15, some 0)], none), ([(16, some 1)], none)] 19 3 rfl rfl (by kernel_rfl) NewT.trans (NewT.refl _) (Nat.le_of_ble_eq_true rfl) ⟨?_, ?_, ?_, trivial⟩ ?_
          · intro a wx hT hF K hK
            obtain ⟨f4, _⟩ := hF
            have f4 : a.tmps.getD 4 undef = .pointer (some ⟨w5.heap.size, 0, none⟩) := f4
            refine rely_wp rfl ?_
            exact opr_ldSt (hT.row rn) rfl f4 (hK _ _ (NewT.refl _) rfl)
          · intro a wx hT hF K hK
            obtain ⟨f15, _⟩ := hF
            have f15 : a.tmps.getD 15 undef = .agg (rowA 2 (stepF s)) := f15
            refine rely_wp rfl ?_
            exact opr_cv (Hq.out ▸ isStep_cv s wx) rfl Tryd.func68 (by kernel_rfl) (by kernel_rfl) (by simp only [List.map_toArray, List.map_cons, List.map_nil, eval_tmp, f15]) hK
          · intro a wx hT hF K hK
            obtain ⟨f16, _⟩ := hF
            have f16 : a.tmps.getD 16 undef = .bool false := f16
            refine rely_wp rfl ?_
            exact opr_not rfl f16 (hK _ _ (NewT.refl _) rfl)
          · intro wy hT2
            intro u h; obtain rfl := Eq.symm (h (by simp)); clear h
            intro u h; obtain rfl := Eq.symm (h (by simp)); clear h
            intro u h; obtain rfl := Eq.symm (h (by simp)); clear h
            refine relyEnd_nil rfl ?_
            refine wpList_end rfl ?_
            simp only [Act.put, List.setIfInBounds_toArray, List.set_cons_zero, List.set_cons_succ]
            go_simp
            have hB2 : Below w.heap.size w wy := qB.trans ((h5.out.mono qB.size).trans ((hNn.out.mono (Nat.le_trans qB.size h5.out.size)).trans (hT2.out.mono (Nat.le_trans qB.size (Nat.le_trans h5.out.size hNn.out.size)))))
            go_wp2
            go_ret
            exact ⟨_, rfl, hB2, by rw [Hno.out Hq.out]; rfl⟩
      · have Hq := Lib.hid hq
        clear hq
        go_upto_region 5 with fail
        refine wp_region_steps0 NewT [SV.eq (.pointer (some ⟨b, o + 2 * k, none⟩)), SV.eq (.agg (rowA 2 (stepF s)))] [([(9, none), (11, none)], none), ([(13, some 0)], none)] 19 2 rfl rfl (by kernel_rfl) NewT.trans (NewT.refl _) (Nat.le_of_ble_eq_true rfl) ⟨?_, ?_, trivial⟩ ?_
        · intro a wx hT hF K hK
          obtain ⟨f9, f11, _⟩ := hF
          have f9 : a.tmps.getD 9 undef = .slice (some ⟨b, o, none⟩) n cap := f9
          have f11 : a.tmps.getD 11 undef = .int .i64 ((k : Int)) := f11
          refine rely_wp rfl ?_
          exact opr_idxS hlt rfl f9 f11 (hK _ _ (NewT.refl _) rfl)
        · intro a wx hT hF K hK
          obtain ⟨f13, _⟩ := hF
          have f13 : a.tmps.getD 13 undef = .pointer (some ⟨b, o + 2 * k, none⟩) := f13
          refine rely_wp rfl ?_
          exact opr_ld2 ((hT.out.cell (World.block_lt_of_cell? _ _ k0)).trans k0) ((hT.out.cell (World.block_lt_of_cell? _ _ k1)).trans k1) rfl f13 (hK _ _ (NewT.refl _) rfl)
        · intro w5 h5
          intro u h; obtain rfl := Eq.symm (h (by simp)); clear h
          intro u h; obtain rfl := Eq.symm (h (by simp)); clear h
          refine relyEnd_nil rfl ?_
          simp only [Act.put, List.setIfInBounds_toArray, List.set_cons_zero, List.set_cons_succ]
          refine wpList_new (n := 2) rfl rfl rfl rfl rfl rfl (by simp) run_alloc_step info_step (stepF_one s) rfl ?_
          intro wn hNn rn
          refine wpList_end rfl ?_
          simp only [Act.put, List.setIfInBounds_toArray, List.set_cons_zero, List.set_cons_succ]
          go_simp
          clear k0 k1
          go_upto_region 6 with fail
          refine wp_region_steps0 NewT [SV.eq (.agg (rowA 2 (stepF s))), SV.eq (.bool true), SV.eq (.bool false)] [([(4, none)], none), ([(15, some 0)], none), ([(16, some 1)], none)] 19 3 rfl rfl (by kernel_rfl) NewT.trans (NewT.refl _) (Nat.le_of_ble_eq_true rfl) ⟨?_, ?_, ?_, trivial⟩ ?_
          · intro a wx hT hF K hK
            obtain ⟨f4, _⟩ := hF
            have f4 : a.tmps.getD 4 undef = .pointer (some ⟨w5.heap.size, 0, none⟩) := f4
            refine rely_wp rfl ?_
            exact opr_ldSt (hT.row rn) rfl f4 (hK _ _ (NewT.refl _) rfl)
          · intro a wx hT hF K hK
            obtain ⟨f15, _⟩ := hF
            have f15 : a.tmps.getD 15 undef = .agg (rowA 2 (stepF s)) := f15
            refine rely_wp rfl ?_
            exact opr_cv (Hq.out ▸ isStep_cv s wx) rfl Tryd.func68 (by kernel_rfl) (by kernel_rfl) (by simp only [List.map_toArray, List.map_cons, List.map_nil, eval_tmp, f15]) hK
          · intro a wx hT hF K hK
            obtain ⟨f16, _⟩ := hF
            have f16 : a.tmps.getD 16 undef = .bool true := f16
            refine rely_wp rfl ?_
            exact opr_not rfl f16 (hK _ _ (NewT.refl _) rfl)
          · intro wy hT2
            intro u h; obtain rfl := Eq.symm (h (by simp)); clear h
            intro u h; obtain rfl := Eq.symm (h (by simp)); clear h
            intro u h; obtain rfl := Eq.symm (h (by simp)); clear h
            refine relyEnd_nil rfl ?_
            refine wpList_end rfl ?_
            simp only [Act.put, List.setIfInBounds_toArray, List.set_cons_zero, List.set_cons_succ]
            go_simp
            have hB2 : Below w.heap.size w wy := qB.trans ((h5.out.mono qB.size).trans ((hNn.out.mono (Nat.le_trans qB.size h5.out.size)).trans (hT2.out.mono (Nat.le_trans qB.size (Nat.le_trans h5.out.size hNn.out.size)))))
            go_wp2
            go_roundw
            case rel => exact ⟨k + 1, by omega, by go_num, Lib.hid (by rw [Hal.out, Hs.out, Hq.out]; rfl), hB2⟩
            case measure => simp [intOf]; omega
    · obtain rfl : k = n := by omega
      go_wp2
      go_ret
      exact ⟨_, rfl, qB, by have := Hs.out; rw [← Hn.out, List.take_length] at this; rw [this]; rfl⟩
end Go.Proofs.YthgblcpekhiphaaDoor
/- The reference's Bytes, at whatever lists. -/
namespace Go.Proofs.YthgblcpekhiphaaDoor
open Go Go.RowKit
set_option maxRecDepth 8000
theorem rd_cells {W : World} {A : Option Addr} {n c : Nat} {l : List UInt8} (h : RdV W [] (.slice A n c) l) : l.length = n ∧ ∀ i, i < n → ∃ b o, A = some ⟨b, o, none⟩ ∧ ∀ j, j < n → W.cell? ⟨b, o + j, none⟩ = some (.int .u8 (bN (bAt l j))) := by
  obtain ⟨A', c', hv, _, _, hc⟩ := h
  cases hv
  refine ⟨rfl, fun i hi => ?_⟩
  obtain ⟨b, o, h1, _, h2⟩ := hc (by omega)
  exact ⟨b, o, h1, h2⟩
/-- The same up to a place. -/
def sameTo (l m : List UInt8) (k : Nat) : Prop := ∀ i, i < k → bAt l i = bAt m i
theorem eq_of_sameTo {l m : List UInt8} (hl : l.length = m.length) (h : sameTo l m l.length) : l = m := by
  apply List.ext_getElem hl
  intro i h1 h2
  have := h i h1
  simpa [bAt, h1, h2] using this
set_option maxHeartbeats 1000000 in
theorem Bytes_any (A1 A2 : Option Addr) (n1 c1 n2 c2 : Nat) (l m : List UInt8) (w : World) (h1 : RdV w [] (.slice A1 n1 c1) l) (h2 : RdV w [] (.slice A2 n2 c2) m) (hn1 : n1 ≤ 1000000) (hn2 : n2 ≤ 1000000) :
    Cv 19 #[.slice A1 n1 c1, .slice A2 n2 c2] w (.eq (.bool (decide (l = m)))) := by
  unfold Cv
  obtain ⟨e1, k1⟩ := rd_cells h1
  obtain ⟨e2, k2⟩ := rd_cells h2
  have E1 := Lib.hid e1
  have E2 := Lib.hid e2
  have H1 := Lib.hid k1
  have H2 := Lib.hid k2
  clear h1 h2 e1 e2 k1 k2
  by_cases hne : n1 = n2
  · subst hne
    go_enter Tryd.func19, Tryd.ntmps19
    go_wp2
    go_loopw [5] (fun i wr => ∃ k : Nat, k ≤ n1 ∧ i = .int .i64 k ∧ Hid (sameTo l m k) ∧ Hid (∀ a, wr.cell? a = w.cell? a) ∧ Below w.heap.size w wr) (fun i _ => n1 - (intOf i).toNat)
    case atStart => exact ⟨0, by omega, rfl, Lib.hid (fun i hi => by omega), Lib.hid (fun _ => rfl), Below.refl _ _⟩
    case round =>
      obtain ⟨k, hk, rfl, Hs, Hcell, qB⟩ := hrel
      by_cases hlt : k < n1
      · obtain ⟨b1, o1, rfl, j1⟩ := H1.out k hlt
        obtain ⟨b2, o2, rfl, j2⟩ := H2.out k hlt
        have c1' := (Hcell.out ⟨b1, o1 + k, none⟩).trans (j1 k hlt)
        have c2' := (Hcell.out ⟨b2, o2 + k, none⟩).trans (j2 k hlt)
        have it : (k : Int) < (n1 : Int) := by omega
        clear j1 j2
        by_cases hb : bAt l k = bAt m k
        · have hq : (bN (bAt l k) != bN (bAt m k)) = false := by rw [hb]; simp
          have Hb := Lib.hid hb
          clear hb
          generalize hx : bN (bAt l k) = x at c1' hq
          generalize hy : bN (bAt m k) = y at c2' hq
          clear hx hy
          go_wp2
          refine wp_region_still_lit (by kernel_rfl) (by kernel_rfl) ?_
          repeat (refine wpStill_step (fun K hK => ?_); go_simp; (try go_bits); refine hK _ ?_; clear hK K)
          refine wpStill_nil ?_
          go_wp2
          go_roundw
          case rel => exact ⟨k + 1, by omega, by go_num, Lib.hid (fun i hi => by
            rcases Nat.lt_succ_iff_lt_or_eq.1 hi with h | rfl
            · exact Hs.out i h
            · exact Hb.out), Lib.hid (fun a => Hcell.out a), qB.drew⟩
          case measure => simp [intOf]; omega
        · have hq : (bN (bAt l k) != bN (bAt m k)) = true := by simpa using fun h => hb (bN_inj h)
          have Hb := Lib.hid hb
          clear hb
          generalize hx : bN (bAt l k) = x at c1' hq
          generalize hy : bN (bAt m k) = y at c2' hq
          clear hx hy
          go_wp2
          refine wp_region_still_lit (by kernel_rfl) (by kernel_rfl) ?_
          repeat (refine wpStill_step (fun K hK => ?_); go_simp; (try go_bits); refine hK _ ?_; clear hK K)
          refine wpStill_nil ?_
          go_wp2
          go_ret
          refine ⟨_, rfl, qB.drew, ?_⟩
          show Value.bool false = _
          congr 1
          exact (decide_eq_false fun h => Hb.out (by rw [h])).symm
      · obtain rfl : k = n1 := by omega
        go_wp2
        go_ret
        refine ⟨_, rfl, qB, ?_⟩
        show Value.bool true = _
        congr 1
        exact (decide_eq_true (eq_of_sameTo (E1.out.trans E2.out.symm) (by rw [E1.out]; exact Hs.out))).symm
  · have hq : ((n1 : Int) != (n2 : Int)) = true := by simp; omega
    have hq2 : (n1 != n2) = true := by simpa using hne
    go_enter Tryd.func19, Tryd.ntmps19
    go_wp2
    go_ret
    refine ⟨_, rfl, Below.refl _ _, ?_⟩
    show Value.bool false = _
    congr 1
    exact (decide_eq_false fun h => hne (by rw [← E1.out, ← E2.out, h])).symm
theorem Bytes_cv (v1 v2 : Value) (l m : List UInt8) (w : World) (h1 : RdV w [] v1 l) (h2 : RdV w [] v2 m) (hl : l.length ≤ 1000000) (hm : m.length ≤ 1000000) :
    Cv 19 #[v1, v2] w (.eq (.bool (decide (l = m)))) := by
  have g1 := h1
  have g2 := h2
  obtain ⟨A1, c1, rfl, _⟩ := g1
  obtain ⟨A2, c2, rfl, _⟩ := g2
  exact Bytes_any A1 A2 _ c1 _ c2 l m w h1 h2 hl hm
end Go.Proofs.YthgblcpekhiphaaDoor
/- Slices compared and cloned. -/
namespace Go.Proofs.YthgblcpekhiphaaDoor
open Go Go.RowKit
set_option maxRecDepth 8000
theorem strEq2 (l m : List UInt8) : (l == m) = decide (l = m) := by
  by_cases h : l = m
  · subst h; simp
  · simp [h]
set_option maxHeartbeats 400000 in
theorem BEqual_cv (v1 v2 : Value) (l m : List UInt8) (w : World) (h1 : RdV w [] v1 l) (h2 : RdV w [] v2 m) : Cv 37 #[v1, v2] w (.eq (.bool (decide (l = m)))) := by
  unfold Cv
  have k1 := conv_rd h1
  have k2 := conv_rd h2
  clear h1 h2
  rw [← strEq2]
  go_enter Tryd.func37, Tryd.ntmps37
  go_wp2
  go_ret
  exact ⟨_, rfl, NewT.refl _, rfl⟩
theorem pairs_ext {l m : List (Int × Int)} {n : Nat} (hl : l.length = n) (hm : m.length = n) (h : ∀ i, i < n → l.getD i (0, 0) = m.getD i (0, 0)) : l = m := by
  apply List.ext_getElem (by omega)
  intro i h1 h2
  have := h i (by omega)
  simpa [List.getD, h1, h2] using this
set_option maxHeartbeats 1000000 in
theorem Equal_cv (v1 v2 : Value) (l m : List (Int × Int)) (w : World) (h1 : RdP w v1 l) (h2 : RdP w v2 m) : Cv 36 #[v1, v2] w (.eq (.bool (decide (l = m)))) := by
  unfold Cv
  obtain ⟨A1, c1, rfl, p1, p2, p3⟩ := h1
  obtain ⟨A2, c2, rfl, q1, q2, q3⟩ := h2
  unfold maxLen at p2 q2
  by_cases hne : l.length = m.length
  rotate_left
  · have hd : decide (l = m) = false := decide_eq_false fun h => hne (by rw [h])
    have ht : ((l.length : Int) != (m.length : Int)) = true := by simp; omega
    rw [hd]
    clear p3 q3 hd
    generalize l.length = n1 at *
    generalize m.length = n2 at *
    go_enter Tryd.func36, Tryd.ntmps36
    go_wp2
    go_ret
    exact ⟨_, rfl, NewT.refl _, rfl⟩
  have P3 := Lib.hid p3
  have Q3 := Lib.hid q3
  clear p3 q3
  generalize hn : l.length = n at *
  rw [← hne] at q1 Q3 ⊢
  have Hn := Lib.hid hn
  have Hm := Lib.hid hne
  clear hn hne
  go_enter Tryd.func36, Tryd.ntmps36
  go_wp2
  go_loopw [13] (fun i wr => ∃ k : Nat, k ≤ n ∧ i = .int .i64 k ∧ Hid (∀ i, i < k → l.getD i (0, 0) = m.getD i (0, 0)) ∧ Below w.heap.size w wr) (fun i _ => n - (intOf i).toNat)
  case atStart => exact ⟨0, by omega, rfl, Lib.hid (fun i hi => by omega), Below.refl _ _⟩
  case round =>
    obtain ⟨k, hk, rfl, Hs, qB⟩ := hrel
    by_cases hlt : k < n
    · obtain ⟨b1, o1, rfl, hc1⟩ := P3.out (by omega)
      obtain ⟨b2, o2, rfl, hc2⟩ := Q3.out (by omega)
      obtain ⟨j0, j1⟩ := hc1 k hlt
      obtain ⟨i0, i1⟩ := hc2 k hlt
      have k0 := (qB.cell (p := ⟨b1, o1 + 2 * k, none⟩) (World.block_lt_of_cell? _ _ j0)).trans j0
      have k1 := (qB.cell (p := ⟨b1, o1 + 2 * k + 1, none⟩) (World.block_lt_of_cell? _ _ j1)).trans j1
      have e0 := (qB.cell (p := ⟨b2, o2 + 2 * k, none⟩) (World.block_lt_of_cell? _ _ i0)).trans i0
      have e1 := (qB.cell (p := ⟨b2, o2 + 2 * k + 1, none⟩) (World.block_lt_of_cell? _ _ i1)).trans i1
      have Hno : Hid (l.getD k (0, 0) ≠ m.getD k (0, 0) → l ≠ m) := Lib.hid (fun h e => h (by rw [e]))
      have Hnx : Hid (l.getD k (0, 0) = m.getD k (0, 0) → ∀ i, i < k + 1 → l.getD i (0, 0) = m.getD i (0, 0)) := Lib.hid (fun h i hi => by
        rcases Nat.lt_succ_iff_lt_or_eq.1 hi with h1 | rfl
        · exact Hs.out i h1
        · exact h)
      clear hc1 hc2 j0 j1 i0 i1
      generalize l.getD k (0, 0) = s at k0 k1 Hno Hnx
      generalize m.getD k (0, 0) = t at e0 e1 Hno Hnx
      have it : (k : Int) < (n : Int) := by omega
      by_cases hq : s = t
      · go_upto_region 6 with fail
        generalize wr = W6 at *
        refine wp_region_rely NewT [SV.eq (.slice (some ⟨b1, o1, none⟩) n c1), SV.eq (.int .i64 ((k : Int))), SV.eq (.pointer (some ⟨b1, o1 + 2 * k, none⟩)), SV.eq (.agg (rowA 2 (stepF s))), SV.eq (.slice (some ⟨b2, o2, none⟩) n c2), SV.eq (.int .i64 ((k : Int))), SV.eq (.pointer (some ⟨b2, o2 + 2 * k, none⟩)), SV.eq (.agg (rowA 2 (stepF t)))] [([(0, none)], none), ([(5, none)], none), ([(16, some 0), (17, some 1)], none), ([(18, some 2)], none), ([(1, none)], none), ([(5, none)], none), ([(20, some 4), (21, some 5)], none), ([(22, some 6)], none)] 26 rfl (by kernel_rfl) rfl (by kernel_rfl) (by kernel_rfl) rfl NewT.trans (NewT.drew _) (Nat.le_of_ble_eq_true rfl) ⟨?_, ?_, ?_, ?_, ?_, ?_, ?_, ?_, trivial⟩ ?_
        · intro a wx hT hF K hK
          obtain ⟨f0, _⟩ := hF
          have f0 : a.tmps.getD 0 undef = .slice (some ⟨b1, o1, none⟩) n c1 := f0
          refine rely_wp rfl ?_
          exact opr_move (.inl rfl) (hK _ _ (NewT.refl _) f0)
        · intro a wx hT hF K hK
          obtain ⟨f5, _⟩ := hF
          have f5 : a.tmps.getD 5 undef = .int .i64 ((k : Int)) := f5
          refine rely_wp rfl ?_
          exact opr_move (.inl rfl) (hK _ _ (NewT.refl _) f5)
        · intro a wx hT hF K hK
          obtain ⟨f16, f17, _⟩ := hF
          have f16 : a.tmps.getD 16 undef = .slice (some ⟨b1, o1, none⟩) n c1 := f16
          have f17 : a.tmps.getD 17 undef = .int .i64 ((k : Int)) := f17
          refine rely_wp rfl ?_
          exact opr_idxS hlt rfl f16 f17 (hK _ _ (NewT.refl _) rfl)
        · intro a wx hT hF K hK
          obtain ⟨f18, _⟩ := hF
          have f18 : a.tmps.getD 18 undef = .pointer (some ⟨b1, o1 + 2 * k, none⟩) := f18
          refine rely_wp rfl ?_
          exact opr_ld2 ((hT.out.cell (World.block_lt_of_cell? _ _ k0)).trans k0) ((hT.out.cell (World.block_lt_of_cell? _ _ k1)).trans k1) rfl f18 (hK _ _ (NewT.refl _) rfl)
        · intro a wx hT hF K hK
          obtain ⟨f1, _⟩ := hF
          have f1 : a.tmps.getD 1 undef = .slice (some ⟨b2, o2, none⟩) n c2 := f1
          refine rely_wp rfl ?_
          exact opr_move (.inl rfl) (hK _ _ (NewT.refl _) f1)
        · intro a wx hT hF K hK
          obtain ⟨f5, _⟩ := hF
          have f5 : a.tmps.getD 5 undef = .int .i64 ((k : Int)) := f5
          refine rely_wp rfl ?_
          exact opr_move (.inl rfl) (hK _ _ (NewT.refl _) f5)
        · intro a wx hT hF K hK
          obtain ⟨f20, f21, _⟩ := hF
          have f20 : a.tmps.getD 20 undef = .slice (some ⟨b2, o2, none⟩) n c2 := f20
          have f21 : a.tmps.getD 21 undef = .int .i64 ((k : Int)) := f21
          refine rely_wp rfl ?_
          exact opr_idxS hlt rfl f20 f21 (hK _ _ (NewT.refl _) rfl)
        · intro a wx hT hF K hK
          obtain ⟨f22, _⟩ := hF
          have f22 : a.tmps.getD 22 undef = .pointer (some ⟨b2, o2 + 2 * k, none⟩) := f22
          refine rely_wp rfl ?_
          exact opr_ld2 ((hT.out.cell (World.block_lt_of_cell? _ _ e0)).trans e0) ((hT.out.cell (World.block_lt_of_cell? _ _ e1)).trans e1) rfl f22 (hK _ _ (NewT.refl _) rfl)
        · intro wy hT2
          intro u h; obtain rfl := Eq.symm (h (by simp)); clear h
          intro u h; obtain rfl := Eq.symm (h (by simp)); clear h
          intro u h; obtain rfl := Eq.symm (h (by simp)); clear h
          intro u h; obtain rfl := Eq.symm (h (by simp)); clear h
          intro u h; obtain rfl := Eq.symm (h (by simp)); clear h
          intro u h; obtain rfl := Eq.symm (h (by simp)); clear h
          intro u h; obtain rfl := Eq.symm (h (by simp)); clear h
          intro u h; obtain rfl := Eq.symm (h (by simp)); clear h
          refine relyEnd_nil rfl ?_
          simp only [Act.put, List.setIfInBounds_toArray, List.set_cons_zero, List.set_cons_succ]
          refine opr_neqS (b := false) (by simp [hq]) rfl rfl rfl ?_
          go_simp
          go_wp2
          go_roundw
          case rel => exact ⟨k + 1, by omega, by go_num, Lib.hid (Hnx.out hq), qB.trans (hT2.out.mono qB.size)⟩
          case measure => simp [intOf]; omega
      · go_upto_region 6 with fail
        generalize wr = W6 at *
        refine wp_region_rely NewT [SV.eq (.slice (some ⟨b1, o1, none⟩) n c1), SV.eq (.int .i64 ((k : Int))), SV.eq (.pointer (some ⟨b1, o1 + 2 * k, none⟩)), SV.eq (.agg (rowA 2 (stepF s))), SV.eq (.slice (some ⟨b2, o2, none⟩) n c2), SV.eq (.int .i64 ((k : Int))), SV.eq (.pointer (some ⟨b2, o2 + 2 * k, none⟩)), SV.eq (.agg (rowA 2 (stepF t)))] [([(0, none)], none), ([(5, none)], none), ([(16, some 0), (17, some 1)], none), ([(18, some 2)], none), ([(1, none)], none), ([(5, none)], none), ([(20, some 4), (21, some 5)], none), ([(22, some 6)], none)] 26 rfl (by kernel_rfl) rfl (by kernel_rfl) (by kernel_rfl) rfl NewT.trans (NewT.drew _) (Nat.le_of_ble_eq_true rfl) ⟨?_, ?_, ?_, ?_, ?_, ?_, ?_, ?_, trivial⟩ ?_
        · intro a wx hT hF K hK
          obtain ⟨f0, _⟩ := hF
          have f0 : a.tmps.getD 0 undef = .slice (some ⟨b1, o1, none⟩) n c1 := f0
          refine rely_wp rfl ?_
          exact opr_move (.inl rfl) (hK _ _ (NewT.refl _) f0)
        · intro a wx hT hF K hK
          obtain ⟨f5, _⟩ := hF
          have f5 : a.tmps.getD 5 undef = .int .i64 ((k : Int)) := f5
          refine rely_wp rfl ?_
          exact opr_move (.inl rfl) (hK _ _ (NewT.refl _) f5)
        · intro a wx hT hF K hK
          obtain ⟨f16, f17, _⟩ := hF
          have f16 : a.tmps.getD 16 undef = .slice (some ⟨b1, o1, none⟩) n c1 := f16
          have f17 : a.tmps.getD 17 undef = .int .i64 ((k : Int)) := f17
          refine rely_wp rfl ?_
          exact opr_idxS hlt rfl f16 f17 (hK _ _ (NewT.refl _) rfl)
        · intro a wx hT hF K hK
          obtain ⟨f18, _⟩ := hF
          have f18 : a.tmps.getD 18 undef = .pointer (some ⟨b1, o1 + 2 * k, none⟩) := f18
          refine rely_wp rfl ?_
          exact opr_ld2 ((hT.out.cell (World.block_lt_of_cell? _ _ k0)).trans k0) ((hT.out.cell (World.block_lt_of_cell? _ _ k1)).trans k1) rfl f18 (hK _ _ (NewT.refl _) rfl)
        · intro a wx hT hF K hK
          obtain ⟨f1, _⟩ := hF
          have f1 : a.tmps.getD 1 undef = .slice (some ⟨b2, o2, none⟩) n c2 := f1
          refine rely_wp rfl ?_
          exact opr_move (.inl rfl) (hK _ _ (NewT.refl _) f1)
        · intro a wx hT hF K hK
          obtain ⟨f5, _⟩ := hF
          have f5 : a.tmps.getD 5 undef = .int .i64 ((k : Int)) := f5
          refine rely_wp rfl ?_
          exact opr_move (.inl rfl) (hK _ _ (NewT.refl _) f5)
        · intro a wx hT hF K hK
          obtain ⟨f20, f21, _⟩ := hF
          have f20 : a.tmps.getD 20 undef = .slice (some ⟨b2, o2, none⟩) n c2 := f20
          have f21 : a.tmps.getD 21 undef = .int .i64 ((k : Int)) := f21
          refine rely_wp rfl ?_
          exact opr_idxS hlt rfl f20 f21 (hK _ _ (NewT.refl _) rfl)
        · intro a wx hT hF K hK
          obtain ⟨f22, _⟩ := hF
          have f22 : a.tmps.getD 22 undef = .pointer (some ⟨b2, o2 + 2 * k, none⟩) := f22
          refine rely_wp rfl ?_
          exact opr_ld2 ((hT.out.cell (World.block_lt_of_cell? _ _ e0)).trans e0) ((hT.out.cell (World.block_lt_of_cell? _ _ e1)).trans e1) rfl f22 (hK _ _ (NewT.refl _) rfl)
        · intro wy hT2
          intro u h; obtain rfl := Eq.symm (h (by simp)); clear h
          intro u h; obtain rfl := Eq.symm (h (by simp)); clear h
          intro u h; obtain rfl := Eq.symm (h (by simp)); clear h
          intro u h; obtain rfl := Eq.symm (h (by simp)); clear h
          intro u h; obtain rfl := Eq.symm (h (by simp)); clear h
          intro u h; obtain rfl := Eq.symm (h (by simp)); clear h
          intro u h; obtain rfl := Eq.symm (h (by simp)); clear h
          intro u h; obtain rfl := Eq.symm (h (by simp)); clear h
          refine relyEnd_nil rfl ?_
          simp only [Act.put, List.setIfInBounds_toArray, List.set_cons_zero, List.set_cons_succ]
          refine opr_neqS (b := true) (by simp [hq]) rfl rfl rfl ?_
          go_simp
          go_wp2
          go_ret
          exact ⟨_, rfl, qB.trans (hT2.out.mono qB.size), by rw [decide_eq_false (Hno.out hq)]; rfl⟩
    · obtain rfl : k = n := by omega
      go_wp2
      go_ret
      exact ⟨_, rfl, qB, by rw [decide_eq_true (pairs_ext Hn.out Hm.out.symm Hs.out)]; rfl⟩
set_option maxHeartbeats 1000000 in
theorem RSteps_cv (v1 v2 : Value) (l m : List (Int × Int)) (w : World) (h1 : RdP w v1 l) (h2 : RdP w v2 m) : Cv 33 #[v1, v2] w (.eq (.bool (decide (l = m)))) := by
  unfold Cv
  obtain ⟨A1, c1, rfl, p1, p2, p3⟩ := h1
  obtain ⟨A2, c2, rfl, q1, q2, q3⟩ := h2
  unfold maxLen at p2 q2
  by_cases hne : l.length = m.length
  rotate_left
  · have hd : decide (l = m) = false := decide_eq_false fun h => hne (by rw [h])
    have ht : ((l.length : Int) != (m.length : Int)) = true := by simp; omega
    rw [hd]
    clear p3 q3 hd
    generalize l.length = n1 at *
    generalize m.length = n2 at *
    go_enter Tryd.func33, Tryd.ntmps33
    go_wp2
    go_ret
    exact ⟨_, rfl, NewT.refl _, rfl⟩
  have P3 := Lib.hid p3
  have Q3 := Lib.hid q3
  clear p3 q3
  generalize hn : l.length = n at *
  rw [← hne] at q1 Q3 ⊢
  have Hn := Lib.hid hn
  have Hm := Lib.hid hne
  clear hn hne
  go_enter Tryd.func33, Tryd.ntmps33
  go_wp2
  go_loopw [5] (fun i wr => ∃ k : Nat, k ≤ n ∧ i = .int .i64 k ∧ Hid (∀ i, i < k → l.getD i (0, 0) = m.getD i (0, 0)) ∧ Below w.heap.size w wr) (fun i _ => n - (intOf i).toNat)
  case atStart => exact ⟨0, by omega, rfl, Lib.hid (fun i hi => by omega), Below.refl _ _⟩
  case round =>
    obtain ⟨k, hk, rfl, Hs, qB⟩ := hrel
    by_cases hlt : k < n
    · obtain ⟨b1, o1, rfl, hc1⟩ := P3.out (by omega)
      obtain ⟨b2, o2, rfl, hc2⟩ := Q3.out (by omega)
      obtain ⟨j0, j1⟩ := hc1 k hlt
      obtain ⟨i0, i1⟩ := hc2 k hlt
      have k0 := (qB.cell (p := ⟨b1, o1 + 2 * k, none⟩) (World.block_lt_of_cell? _ _ j0)).trans j0
      have k1 := (qB.cell (p := ⟨b1, o1 + 2 * k + 1, none⟩) (World.block_lt_of_cell? _ _ j1)).trans j1
      have e0 := (qB.cell (p := ⟨b2, o2 + 2 * k, none⟩) (World.block_lt_of_cell? _ _ i0)).trans i0
      have e1 := (qB.cell (p := ⟨b2, o2 + 2 * k + 1, none⟩) (World.block_lt_of_cell? _ _ i1)).trans i1
      have Hno : Hid (l.getD k (0, 0) ≠ m.getD k (0, 0) → l ≠ m) := Lib.hid (fun h e => h (by rw [e]))
      have Hnx : Hid (l.getD k (0, 0) = m.getD k (0, 0) → ∀ i, i < k + 1 → l.getD i (0, 0) = m.getD i (0, 0)) := Lib.hid (fun h i hi => by
        rcases Nat.lt_succ_iff_lt_or_eq.1 hi with h1 | rfl
        · exact Hs.out i h1
        · exact h)
      clear hc1 hc2 j0 j1 i0 i1
      generalize l.getD k (0, 0) = s at k0 k1 Hno Hnx
      generalize m.getD k (0, 0) = t at e0 e1 Hno Hnx
      have it : (k : Int) < (n : Int) := by omega
      by_cases hq : s = t
      · go_upto_region 6 with fail
        generalize wr = W6 at *
        refine wp_region_rely NewT [SV.eq (.slice (some ⟨b1, o1, none⟩) n c1), SV.eq (.int .i64 ((k : Int))), SV.eq (.pointer (some ⟨b1, o1 + 2 * k, none⟩)), SV.eq (.agg (rowA 2 (stepF s))), SV.eq (.slice (some ⟨b2, o2, none⟩) n c2), SV.eq (.int .i64 ((k : Int))), SV.eq (.pointer (some ⟨b2, o2 + 2 * k, none⟩)), SV.eq (.agg (rowA 2 (stepF t)))] [([(0, none)], none), ([(5, none)], none), ([(17, some 0), (18, some 1)], none), ([(19, some 2)], none), ([(1, none)], none), ([(5, none)], none), ([(21, some 4), (22, some 5)], none), ([(23, some 6)], none)] 26 rfl (by kernel_rfl) rfl (by kernel_rfl) (by kernel_rfl) rfl NewT.trans (NewT.drew _) (Nat.le_of_ble_eq_true rfl) ⟨?_, ?_, ?_, ?_, ?_, ?_, ?_, ?_, trivial⟩ ?_
        · intro a wx hT hF K hK
          obtain ⟨f0, _⟩ := hF
          have f0 : a.tmps.getD 0 undef = .slice (some ⟨b1, o1, none⟩) n c1 := f0
          refine rely_wp rfl ?_
          exact opr_move (.inl rfl) (hK _ _ (NewT.refl _) f0)
        · intro a wx hT hF K hK
          obtain ⟨f5, _⟩ := hF
          have f5 : a.tmps.getD 5 undef = .int .i64 ((k : Int)) := f5
          refine rely_wp rfl ?_
          exact opr_move (.inl rfl) (hK _ _ (NewT.refl _) f5)
        · intro a wx hT hF K hK
          obtain ⟨f17, f18, _⟩ := hF
          have f17 : a.tmps.getD 17 undef = .slice (some ⟨b1, o1, none⟩) n c1 := f17
          have f18 : a.tmps.getD 18 undef = .int .i64 ((k : Int)) := f18
          refine rely_wp rfl ?_
          exact opr_idxS hlt rfl f17 f18 (hK _ _ (NewT.refl _) rfl)
        · intro a wx hT hF K hK
          obtain ⟨f19, _⟩ := hF
          have f19 : a.tmps.getD 19 undef = .pointer (some ⟨b1, o1 + 2 * k, none⟩) := f19
          refine rely_wp rfl ?_
          exact opr_ld2 ((hT.out.cell (World.block_lt_of_cell? _ _ k0)).trans k0) ((hT.out.cell (World.block_lt_of_cell? _ _ k1)).trans k1) rfl f19 (hK _ _ (NewT.refl _) rfl)
        · intro a wx hT hF K hK
          obtain ⟨f1, _⟩ := hF
          have f1 : a.tmps.getD 1 undef = .slice (some ⟨b2, o2, none⟩) n c2 := f1
          refine rely_wp rfl ?_
          exact opr_move (.inl rfl) (hK _ _ (NewT.refl _) f1)
        · intro a wx hT hF K hK
          obtain ⟨f5, _⟩ := hF
          have f5 : a.tmps.getD 5 undef = .int .i64 ((k : Int)) := f5
          refine rely_wp rfl ?_
          exact opr_move (.inl rfl) (hK _ _ (NewT.refl _) f5)
        · intro a wx hT hF K hK
          obtain ⟨f21, f22, _⟩ := hF
          have f21 : a.tmps.getD 21 undef = .slice (some ⟨b2, o2, none⟩) n c2 := f21
          have f22 : a.tmps.getD 22 undef = .int .i64 ((k : Int)) := f22
          refine rely_wp rfl ?_
          exact opr_idxS hlt rfl f21 f22 (hK _ _ (NewT.refl _) rfl)
        · intro a wx hT hF K hK
          obtain ⟨f23, _⟩ := hF
          have f23 : a.tmps.getD 23 undef = .pointer (some ⟨b2, o2 + 2 * k, none⟩) := f23
          refine rely_wp rfl ?_
          exact opr_ld2 ((hT.out.cell (World.block_lt_of_cell? _ _ e0)).trans e0) ((hT.out.cell (World.block_lt_of_cell? _ _ e1)).trans e1) rfl f23 (hK _ _ (NewT.refl _) rfl)
        · intro wy hT2
          intro u h; obtain rfl := Eq.symm (h (by simp)); clear h
          intro u h; obtain rfl := Eq.symm (h (by simp)); clear h
          intro u h; obtain rfl := Eq.symm (h (by simp)); clear h
          intro u h; obtain rfl := Eq.symm (h (by simp)); clear h
          intro u h; obtain rfl := Eq.symm (h (by simp)); clear h
          intro u h; obtain rfl := Eq.symm (h (by simp)); clear h
          intro u h; obtain rfl := Eq.symm (h (by simp)); clear h
          intro u h; obtain rfl := Eq.symm (h (by simp)); clear h
          refine relyEnd_nil rfl ?_
          simp only [Act.put, List.setIfInBounds_toArray, List.set_cons_zero, List.set_cons_succ]
          refine opr_neqS (b := false) (by simp [hq]) rfl rfl rfl ?_
          go_simp
          go_wp2
          go_roundw
          case rel => exact ⟨k + 1, by omega, by go_num, Lib.hid (Hnx.out hq), qB.trans (hT2.out.mono qB.size)⟩
          case measure => simp [intOf]; omega
      · go_upto_region 6 with fail
        generalize wr = W6 at *
        refine wp_region_rely NewT [SV.eq (.slice (some ⟨b1, o1, none⟩) n c1), SV.eq (.int .i64 ((k : Int))), SV.eq (.pointer (some ⟨b1, o1 + 2 * k, none⟩)), SV.eq (.agg (rowA 2 (stepF s))), SV.eq (.slice (some ⟨b2, o2, none⟩) n c2), SV.eq (.int .i64 ((k : Int))), SV.eq (.pointer (some ⟨b2, o2 + 2 * k, none⟩)), SV.eq (.agg (rowA 2 (stepF t)))] [([(0, none)], none), ([(5, none)], none), ([(17, some 0), (18, some 1)], none), ([(19, some 2)], none), ([(1, none)], none), ([(5, none)], none), ([(21, some 4), (22, some 5)], none), ([(23, some 6)], none)] 26 rfl (by kernel_rfl) rfl (by kernel_rfl) (by kernel_rfl) rfl NewT.trans (NewT.drew _) (Nat.le_of_ble_eq_true rfl) ⟨?_, ?_, ?_, ?_, ?_, ?_, ?_, ?_, trivial⟩ ?_
        · intro a wx hT hF K hK
          obtain ⟨f0, _⟩ := hF
          have f0 : a.tmps.getD 0 undef = .slice (some ⟨b1, o1, none⟩) n c1 := f0
          refine rely_wp rfl ?_
          exact opr_move (.inl rfl) (hK _ _ (NewT.refl _) f0)
        · intro a wx hT hF K hK
          obtain ⟨f5, _⟩ := hF
          have f5 : a.tmps.getD 5 undef = .int .i64 ((k : Int)) := f5
          refine rely_wp rfl ?_
          exact opr_move (.inl rfl) (hK _ _ (NewT.refl _) f5)
        · intro a wx hT hF K hK
          obtain ⟨f17, f18, _⟩ := hF
          have f17 : a.tmps.getD 17 undef = .slice (some ⟨b1, o1, none⟩) n c1 := f17
          have f18 : a.tmps.getD 18 undef = .int .i64 ((k : Int)) := f18
          refine rely_wp rfl ?_
          exact opr_idxS hlt rfl f17 f18 (hK _ _ (NewT.refl _) rfl)
        · intro a wx hT hF K hK
          obtain ⟨f19, _⟩ := hF
          have f19 : a.tmps.getD 19 undef = .pointer (some ⟨b1, o1 + 2 * k, none⟩) := f19
          refine rely_wp rfl ?_
          exact opr_ld2 ((hT.out.cell (World.block_lt_of_cell? _ _ k0)).trans k0) ((hT.out.cell (World.block_lt_of_cell? _ _ k1)).trans k1) rfl f19 (hK _ _ (NewT.refl _) rfl)
        · intro a wx hT hF K hK
          obtain ⟨f1, _⟩ := hF
          have f1 : a.tmps.getD 1 undef = .slice (some ⟨b2, o2, none⟩) n c2 := f1
          refine rely_wp rfl ?_
          exact opr_move (.inl rfl) (hK _ _ (NewT.refl _) f1)
        · intro a wx hT hF K hK
          obtain ⟨f5, _⟩ := hF
          have f5 : a.tmps.getD 5 undef = .int .i64 ((k : Int)) := f5
          refine rely_wp rfl ?_
          exact opr_move (.inl rfl) (hK _ _ (NewT.refl _) f5)
        · intro a wx hT hF K hK
          obtain ⟨f21, f22, _⟩ := hF
          have f21 : a.tmps.getD 21 undef = .slice (some ⟨b2, o2, none⟩) n c2 := f21
          have f22 : a.tmps.getD 22 undef = .int .i64 ((k : Int)) := f22
          refine rely_wp rfl ?_
          exact opr_idxS hlt rfl f21 f22 (hK _ _ (NewT.refl _) rfl)
        · intro a wx hT hF K hK
          obtain ⟨f23, _⟩ := hF
          have f23 : a.tmps.getD 23 undef = .pointer (some ⟨b2, o2 + 2 * k, none⟩) := f23
          refine rely_wp rfl ?_
          exact opr_ld2 ((hT.out.cell (World.block_lt_of_cell? _ _ e0)).trans e0) ((hT.out.cell (World.block_lt_of_cell? _ _ e1)).trans e1) rfl f23 (hK _ _ (NewT.refl _) rfl)
        · intro wy hT2
          intro u h; obtain rfl := Eq.symm (h (by simp)); clear h
          intro u h; obtain rfl := Eq.symm (h (by simp)); clear h
          intro u h; obtain rfl := Eq.symm (h (by simp)); clear h
          intro u h; obtain rfl := Eq.symm (h (by simp)); clear h
          intro u h; obtain rfl := Eq.symm (h (by simp)); clear h
          intro u h; obtain rfl := Eq.symm (h (by simp)); clear h
          intro u h; obtain rfl := Eq.symm (h (by simp)); clear h
          intro u h; obtain rfl := Eq.symm (h (by simp)); clear h
          refine relyEnd_nil rfl ?_
          simp only [Act.put, List.setIfInBounds_toArray, List.set_cons_zero, List.set_cons_succ]
          refine opr_neqS (b := true) (by simp [hq]) rfl rfl rfl ?_
          go_simp
          go_wp2
          go_ret
          exact ⟨_, rfl, qB.trans (hT2.out.mono qB.size), by rw [decide_eq_false (Hno.out hq)]; rfl⟩
    · obtain rfl : k = n := by omega
      go_wp2
      go_ret
      exact ⟨_, rfl, qB, by rw [decide_eq_true (pairs_ext Hn.out Hm.out.symm Hs.out)]; rfl⟩
end Go.Proofs.YthgblcpekhiphaaDoor
