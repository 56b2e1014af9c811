/- Records' bytes by their pieces; the kinds' forms. -/
import Derived.Test.YthgblcpekhiphaaDoorMb
import Derived.Test.YthgblcpekhiphaaDoorMa
set_option linter.all false
namespace Go.Proofs.YthgblcpekhiphaaDoor
open Go Go.RowKit
set_option maxRecDepth 8000
def rcL (x : Rc) : List UInt8 := callL x ++ (fB x.good :: (numI x.part ++ (numI x.epoch ++ hL x.tag)))
def clL (x : Rc) : List UInt8 := numI x.saga ++ (numI x.seq ++ numI x.nd)
def roL (x : Rc) : List UInt8 := numI x.part ++ numI x.epoch
def hdL (x : Rc) : List UInt8 := numI x.saga ++ (numI x.steps.length ++ stepsL x.steps)
theorem callL_len (x : Rc) : (callL x).length ≤ 30 := by
  unfold callL
  have := numI_length x.saga; have := numI_length x.seq; have := numI_length x.step; have := numI_length x.tr
  simp; omega
theorem rcL_len (x : Rc) : (rcL x).length ≤ 80 := by
  unfold rcL
  have := callL_len x; have := numI_length x.part; have := numI_length x.epoch
  simp [hL_length]; omega
theorem clL_len (x : Rc) : (clL x).length ≤ 80 := by
  unfold clL
  have := numI_length x.saga; have := numI_length x.seq; have := numI_length x.nd
  simp; omega
theorem roL_len (x : Rc) : (roL x).length ≤ 80 := by
  unfold roL
  have := numI_length x.part; have := numI_length x.epoch
  simp; omega
theorem stepsL_len (l : List (Int × Int)) : (stepsL l).length ≤ 10 * l.length := by
  induction l with
  | nil => simp [stepsL]
  | cons s l ih =>
    have e : stepsL (s :: l) = numI s.1 ++ numI s.2 ++ stepsL l := by simp [stepsL]
    have := numI_length s.1; have := numI_length s.2
    rw [e]; simp; omega
theorem hdL_len (x : Rc) (h : x.steps.length ≤ 30) : (hdL x).length ≤ 400 := by
  unfold hdL
  have := numI_length x.saga; have := numI_length x.steps.length; have := stepsL_len x.steps
  simp; omega
theorem stepsL_next (l : List (Int × Int)) (k : Nat) (hk : k < l.length) : stepsL (l.take (k + 1)) = stepsL (l.take k) ++ (numI (l.getD k (0, 0)).1 ++ numI (l.getD k (0, 0)).2) := by
  have e : l.take (k + 1) = l.take k ++ [l.getD k (0, 0)] := by rw [List.take_add_one, List.getElem?_eq_getElem hk]; simp [List.getD, hk]
  rw [e]; simp [stepsL]
theorem digL_hL (d : Nat → UInt8) : digL d = hL d := rfl
theorem sealed_1 (x : Rc) (h : rightB x = true) (hk : x.kind = 1) : numI x.kind ++ (hdL x ++ hL (comC x)) = sealedB x := by
  unfold sealedB sealedL tailL hdL comC; rw [if_pos h, if_pos hk]; simp
theorem open_1 (x : Rc) (h : rightB x = true) (hk : x.kind = 1) : numI x.kind ++ (hdL x ++ payL x) = openB x := by
  unfold openB openL tailL hdL; rw [if_pos h, if_pos hk]; simp
theorem tail_2 (x : Rc) (c : List UInt8) (hk : x.kind = 2 ∨ x.kind = 4) : tailL x c = callL x := by unfold tailL; rw [if_neg (by omega), if_pos hk]
theorem tail_3 (x : Rc) (c : List UInt8) (hk : x.kind = 3) : tailL x c = rcL x := by unfold tailL rcL; rw [if_neg (by omega), if_neg (by omega), if_pos hk]
theorem tail_5 (x : Rc) (c : List UInt8) (hk : x.kind = 5) : tailL x c = clL x := by unfold tailL clL; rw [if_neg (by omega), if_neg (by omega), if_neg (by omega), if_pos hk]
theorem tail_6 (x : Rc) (c : List UInt8) (hk : x.kind = 6) : tailL x c = roL x := by unfold tailL roL; rw [if_neg (by omega), if_neg (by omega), if_neg (by omega), if_neg (by omega)]
theorem sealed_o (x : Rc) (l : List UInt8) (h : rightB x = true) (hl : ∀ c, tailL x c = l) : numI x.kind ++ l = sealedB x := by
  unfold sealedB sealedL; rw [if_pos h, hl]
theorem open_o (x : Rc) (l : List UInt8) (h : rightB x = true) (hl : ∀ c, tailL x c = l) : numI x.kind ++ l = openB x := by
  unfold openB openL; rw [if_pos h, hl]
/-- A function, as a value. -/
def fnV (k : Nat) : Value := .func (.func k) #[] #[]
/-- The kinds' forms. -/
def formL : List Value := [.nilFunc, .nilFunc, .nilFunc, fnV 55, fnV 56, fnV 57, fnV 58, fnV 58, fnV 59, fnV 60, fnV 60, fnV 61,
  fnV 58, fnV 58, fnV 59, fnV 62, fnV 62, fnV 63, fnV 64, fnV 64, fnV 65]
def formF (i : Nat) : Value := formL.getD i .nilFunc
theorem formF_one (i : Nat) : (formF i).oneCell' = true := by
  unfold formF
  have h : ∀ v ∈ formL, v.oneCell' = true := by decide
  cases hv : formL[i]? with
  | none => simp [List.getD, hv]; rfl
  | some v => simp [List.getD, hv]; exact h v (List.mem_of_getElem? hv)
theorem info_forms : (Tryd.prog.info? 57).map (·.size) = some 21 := by kernel_rfl
section
variable {a : Act} {w : World} {o : Oper} {K : Act → World → Prop} {Q : Exit → Act → World → Prop} {x y : Operand}
theorem opr_idx {t : TypeId} {vx vy v : Value} (ho : o.op = .index t x y) (hx : a.eval x = vx) (hy : a.eval y = vy) (hr : (Instr.index t vx vy).run Tryd.prog w = .ok v w) (h : K (a.put o.dst v) w) : o.wp Tryd.prog a w K Q := by
  obtain ⟨dst, op, type, pos, after, guard⟩ := o
  simp only at ho
  subst ho hx hy
  exact opr_val (s := Instr.index t (a.eval x) (a.eval y)) rfl hr h
theorem opr_fieldv {t : TypeId} {k : Nat} {vx v : Value} (ho : o.op = .field t x k) (hx : a.eval x = vx) (hr : (Instr.field t vx k).run Tryd.prog w = .ok v w) (h : K (a.put o.dst v) w) : o.wp Tryd.prog a w K Q := by
  obtain ⟨dst, op, type, pos, after, guard⟩ := o
  simp only at ho
  subst ho hx
  exact opr_val (s := Instr.field t (a.eval x) k) rfl hr h
end
theorem idx_1 (w : World) : (Instr.index 57 (.agg (rowA 21 formF)) (.int .i64 1)).run Tryd.prog w = .ok (.agg (rowA 3 fun j => formF (3 + j))) w := by kernel_rfl
theorem idx_2 (w : World) : (Instr.index 57 (.agg (rowA 21 formF)) (.int .i64 2)).run Tryd.prog w = .ok (.agg (rowA 3 fun j => formF (6 + j))) w := by kernel_rfl
theorem idx_3 (w : World) : (Instr.index 57 (.agg (rowA 21 formF)) (.int .i64 3)).run Tryd.prog w = .ok (.agg (rowA 3 fun j => formF (9 + j))) w := by kernel_rfl
theorem idx_4 (w : World) : (Instr.index 57 (.agg (rowA 21 formF)) (.int .i64 4)).run Tryd.prog w = .ok (.agg (rowA 3 fun j => formF (12 + j))) w := by kernel_rfl
theorem idx_5 (w : World) : (Instr.index 57 (.agg (rowA 21 formF)) (.int .i64 5)).run Tryd.prog w = .ok (.agg (rowA 3 fun j => formF (15 + j))) w := by kernel_rfl
theorem idx_6 (w : World) : (Instr.index 57 (.agg (rowA 21 formF)) (.int .i64 6)).run Tryd.prog w = .ok (.agg (rowA 3 fun j => formF (18 + j))) w := by kernel_rfl
theorem fldv_0 (f : Nat → Value) (v : Value) (hv : f 0 = v) (w : World) : (Instr.field 56 (.agg (rowA 3 f)) 0).run Tryd.prog w = .ok v w := by
  have h : (Instr.field 56 (.agg (rowA 3 f)) 0).run Tryd.prog w = .ok (f 0) w := by kernel_rfl
  rw [h, hv]
theorem fldv_1 (f : Nat → Value) (v : Value) (hv : f 1 = v) (w : World) : (Instr.field 56 (.agg (rowA 3 f)) 1).run Tryd.prog w = .ok v w := by
  have h : (Instr.field 56 (.agg (rowA 3 f)) 1).run Tryd.prog w = .ok (f 1) w := by kernel_rfl
  rw [h, hv]
theorem fldv_2 (f : Nat → Value) (v : Value) (hv : f 2 = v) (w : World) : (Instr.field 56 (.agg (rowA 3 f)) 2).run Tryd.prog w = .ok v w := by
  have h : (Instr.field 56 (.agg (rowA 3 f)) 2).run Tryd.prog w = .ok (f 2) w := by kernel_rfl
  rw [h, hv]
end Go.Proofs.YthgblcpekhiphaaDoor
/- What a reader reads of what was put, thing by thing; lists that lie outside some blocks. -/
namespace Go.Proofs.YthgblcpekhiphaaDoor
open Go Go.RowKit
set_option maxRecDepth 8000
theorem RNum_put (R : Nat) (n : Int) (r : List UInt8) (w : World) (h : Rdr w R (numI n ++ r) 0) (hn : 0 ≤ n ∧ n ≤ 2147483647) (hl : r.length ≤ 900000) :
    Calls Tryd.prog 44 #[.pointer (some ⟨R, 0, none⟩)] w fun ev w' => ev = .returned (.int .i64 n) ∧ RT R w w' ∧ Rdr w' R r 0 := by
  obtain ⟨m, rfl⟩ := Int.eq_ofNat_of_zero_le hn.1
  have hm : m ≤ 2147483647 := by omega
  rw [numI_nat m hm] at h
  have := RNum_good R _ w h (by have := numL_length m; have := sz_le m; simp; omega)
  rw [outN_put m hm r] at this
  exact this
theorem RFlag_put (R : Nat) (b : Bool) (r : List UInt8) (w : World) (h : Rdr w R (fB b :: r) 0) (hl : r.length ≤ 900000) :
    Calls Tryd.prog 80 #[.pointer (some ⟨R, 0, none⟩)] w fun ev w' => ev = .returned (.bool b) ∧ RT R w w' ∧ Rdr w' R r 0 := by
  have := RFlag_good R _ w h (by simp; omega)
  rw [show fB b :: r = cond b 1 0 :: r from rfl, outQ_put b r] at this
  exact this
theorem RHash_put (R : Nat) (d : Nat → UInt8) (r : List UInt8) (w : World) (h : Rdr w R (hL d ++ r) 0) :
    Calls Tryd.prog 81 #[.pointer (some ⟨R, 0, none⟩)] w fun ev w' => ev = .returned (.agg (rowA 32 (bF d))) ∧ RT R w w' ∧ Rdr w' R r 0 := by
  have := RHash_good R _ w h
  obtain ⟨h1, h2⟩ := outH_put d r
  rw [digL_hL] at h1 h2
  rw [h2, h1] at this
  exact this
theorem outB_put2 (l r : List UInt8) (most : Int) (hl : l.length ≤ 1000000) (hm : (l.length : Int) ≤ most) : outB (numL l.length ++ l ++ r) most = (l, r, 0) := by
  have hg := goN_put l.length (by omega) (l ++ r)
  rw [← List.append_assoc] at hg
  have hd : (numL l.length ++ l ++ r).drop (sz l.length) = l ++ r := by
    rw [List.append_assoc, ← numL_length l.length]; simp
  have hB : goB (numL l.length ++ l ++ r) most = (l, sz l.length + l.length, 0) := by
    unfold goB
    rw [hg]
    simp only
    rw [if_neg (by simp), if_neg (by omega), if_neg (by simp [numL_length]), hd]
    simp
  unfold outB
  rw [hB]
  simp only [if_true]
  rw [← List.drop_drop, hd]
  simp
theorem RBytes_put (R : Nat) (l r : List UInt8) (most : Int) (w : World) (h : Rdr w R (numI l.length ++ (l ++ r)) 0) (hm : (l.length : Int) ≤ most) (hl : l.length ≤ 1000) (hr : r.length ≤ 900000) :
    Calls Tryd.prog 82 #[.pointer (some ⟨R, 0, none⟩), .int .i64 most] w fun ev w' => ∃ u, ev = .returned u ∧ RdVB w' w.heap.size u l ∧ RT R w w' ∧ Rdr w' R r 0 := by
  rw [numI_nat l.length (by omega), ← List.append_assoc] at h
  have := RBytes_good R most _ w h (by have := numL_length l.length; have := sz_le l.length; simp; omega)
  rw [outB_put2 l r most (by omega) hm] at this
  exact this
/-- Steps outside the blocks of L. -/
def RdPL (w : World) (L : List Nat) (v : Value) (l : List (Int × Int)) : Prop := RdP w v l ∧ (0 < l.length → ∀ a n c, v = .slice (some a) n c → a.block ∉ L)
theorem RdPL.keep {w w' : World} {L : List Nat} {v : Value} {l : List (Int × Int)} (h : RdPL w L v l) (hK : KeepBut L w w') : RdPL w' L v l := by
  obtain ⟨⟨A, cap, rfl, h1, h2, h3⟩, hn⟩ := h
  refine ⟨⟨A, cap, rfl, h1, h2, fun h0 => ?_⟩, hn⟩
  obtain ⟨b, o, rfl, hc⟩ := h3 h0
  have hb : b ∉ L := hn h0 ⟨b, o, none⟩ _ _ rfl
  exact ⟨b, o, rfl, fun i hi => ⟨hK.cell (a := ⟨b, o + 2 * i, none⟩) hb (hc i hi).1, hK.cell (a := ⟨b, o + 2 * i + 1, none⟩) hb (hc i hi).2⟩⟩
theorem RdPL.new {w w' : World} {L : List Nat} {v : Value} {l : List (Int × Int)} (h : RdPL w L v l) (hN : NewT w w') : RdPL w' L v l := ⟨hN.pairs h.1, h.2⟩
theorem RdPL.rt {w w' : World} {L : List Nat} {v : Value} {l : List (Int × Int)} {R : Nat} (h : RdPL w L v l) (hT : RT R w w') (hR : R ∈ L) : RdPL w' L v l := h.keep (hT.keep.more (by simpa using hR))
theorem RdPL.more {w : World} {L : List Nat} {v : Value} {l : List (Int × Int)} (h : RdPL w L v l) {g : Nat} (hg : w.heap.size ≤ g) : RdPL w (g :: L) v l := by
  refine ⟨h.1, fun h0 a n c e => ?_⟩
  have h2 := h.2 h0 a n c e
  obtain ⟨A, cap, rfl, h1, h2', h3⟩ := h.1
  obtain ⟨b, o, rfl, hc⟩ := h3 h0
  cases e
  have := World.block_lt_of_cell? _ _ (hc 0 h0).1
  simp at this h2 ⊢
  exact ⟨by omega, h2⟩
theorem RdV.rt {w w' : World} {L : List Nat} {v : Value} {l : List UInt8} {R : Nat} (h : RdV w L v l) (hT : RT R w w') (hR : R ∈ L) : RdV w' L v l := h.keep (hT.keep.more (by simpa using hR))
theorem ownsRow_rt {w w' : World} {R base : Nat} {e : TypeId} {size n : Nat} {v : Value} {xs : List Value} (h : w.ownsRow base e size v n xs) (hT : RT R w w') (hR : R < base) : w'.ownsRow base e size v n xs := by
  obtain ⟨a, b⟩ := h
  refine ⟨a, ?_⟩
  rcases b with b | ⟨g, cap, cur, rfl, hb, hg, r⟩
  · exact .inl b
  · exact .inr ⟨g, cap, cur, rfl, hb, hT.keep.2 g _ (by simp; omega) hg rfl, r⟩
theorem ownsRow_new {w w' : World} {base : Nat} {e : TypeId} {size n : Nat} {v : Value} {xs : List Value} (h : w.ownsRow base e size v n xs) (hT : NewT w w') : w'.ownsRow base e size v n xs := by
  obtain ⟨a, b⟩ := h
  refine ⟨a, ?_⟩
  rcases b with b | ⟨g, cap, cur, rfl, hb, hg, r⟩
  · exact .inl b
  · have hlt : g < w.heap.size := by
      rcases Nat.lt_or_ge g w.heap.size with h | h
      · exact h
      · rw [Array.getElem?_eq_none h] at hg; cases hg
    exact .inr ⟨g, cap, cur, rfl, hb, (hT.out.block g hlt).trans hg, r⟩
/-- A step that writes a block that came behind W. -/
theorem RT.late2 {R g : Nat} {W w w' : World} (h : RT R W w) (hg : W.heap.size ≤ g) (hR : R < W.heap.size) (hT : RT g w w') : RT R W w' := RT.late h hg hR hT.keep fun _ hB => hT.below.mono hB
theorem Rdr.rt {w w' : World} {R g : Nat} {l : List UInt8} {e : Int} (h : Rdr w R l e) (hT : RT g w w') (hg : R < g) : Rdr w' R l e := h.keep (G := [g]) (by simpa using hg) hT.keep
end Go.Proofs.YthgblcpekhiphaaDoor
/- Package rec: ranges; steps; slices compared. -/
namespace Go.Proofs.YthgblcpekhiphaaDoor
open Go Go.RowKit
set_option maxRecDepth 8000
set_option maxHeartbeats 400000 in
theorem within_cv (n lo hi : Int) (w : World) : Cv 45 #[.int .i64 n, .int .i64 lo, .int .i64 hi] w (.eq (.bool (inR n lo hi))) := by
  unfold Cv
  go_enter Tryd.func45, Tryd.ntmps45
  go_upto_region 1 with fail
  obtain ⟨q1_1, Q1_1⟩ : ∃ q, ((decide (lo ≤ n)) && (decide (n ≤ hi))) = q := ⟨_, rfl⟩
  refine wp_region_steps0 NewT [SV.eq (.int .i64 (lo)), SV.eq (.int .i64 (n)), SV.eq (.bool (decide (lo ≤ n))), SV.eq (.bool (decide (lo ≤ n))), svIf (decide (lo ≤ n)) (SV.eq (.int .i64 (n))), svIf (decide (lo ≤ n)) (SV.eq (.int .i64 (hi))), svIf (decide (lo ≤ n)) (SV.eq (.bool (decide (n ≤ hi)))), SV.eq (.bool (q1_1)), SV.eq (.bool (q1_1))] [([(1, none)], none), ([(0, none)], none), ([(7, some 0), (8, some 1)], none), ([(9, some 2)], none), ([(0, none), (10, some 3)], some (10, true)), ([(2, none), (10, some 3)], some (10, true)), ([(11, some 4), (12, some 5), (10, some 3)], some (10, true)), ([(10, some 3), (13, some 6)], none), ([(14, some 7)], none)] 15 9 rfl rfl (by kernel_rfl) NewT.trans (NewT.refl _) (Nat.le_of_ble_eq_true rfl) ⟨?_, ?_, ?_, ?_, ?_, ?_, ?_, ?_, ?_, trivial⟩ ?_
  · intro a wx hT hF K hK
    obtain ⟨f1, _⟩ := hF
    have f1 : a.tmps.getD 1 undef = .int .i64 (lo) := f1
    refine rely_wp rfl ?_
    exact opr_move (.inl rfl) (hK _ _ (NewT.refl _) f1)
  · intro a wx hT hF K hK
    obtain ⟨f0, _⟩ := hF
    have f0 : a.tmps.getD 0 undef = .int .i64 (n) := f0
    refine rely_wp rfl ?_
    exact opr_move (.inl rfl) (hK _ _ (NewT.refl _) f0)
  · intro a wx hT hF K hK
    obtain ⟨f7, f8, _⟩ := hF
    have f7 : a.tmps.getD 7 undef = .int .i64 (lo) := f7
    have f8 : a.tmps.getD 8 undef = .int .i64 (n) := f8
    refine rely_wp rfl ?_
    exact opr_cmp (b := decide (lo ≤ n)) (.inr (.inr (.inl ⟨rfl, rfl⟩))) Tryd.underlying3 rfl f7 f8 (hK _ _ (NewT.refl _) rfl)
  · intro a wx hT hF K hK
    obtain ⟨f9, _⟩ := hF
    have f9 : a.tmps.getD 9 undef = .bool (decide (lo ≤ n)) := f9
    refine rely_wp rfl ?_
    exact opr_move (.inl rfl) (hK _ _ (NewT.refl _) f9)
  · intro a wx hT hF K hK
    obtain ⟨f0, f10, _⟩ := hF
    have f0 : a.tmps.getD 0 undef = .int .i64 (n) := f0
    have f10 : a.tmps.getD 10 undef = .bool (decide (lo ≤ n)) := f10
    refine rely_if (rely_gt f10) (NewT.refl _) hK (fun hE hK => ?_)
    exact opr_move (.inl rfl) (hK _ _ (NewT.refl _) f0)
  · intro a wx hT hF K hK
    obtain ⟨f2, f10, _⟩ := hF
    have f2 : a.tmps.getD 2 undef = .int .i64 (hi) := f2
    have f10 : a.tmps.getD 10 undef = .bool (decide (lo ≤ n)) := f10
    refine rely_if (rely_gt f10) (NewT.refl _) hK (fun hE hK => ?_)
    exact opr_move (.inl rfl) (hK _ _ (NewT.refl _) f2)
  · intro a wx hT hF K hK
    obtain ⟨f11, f12, f10, _⟩ := hF
    have f11 : (decide (lo ≤ n)) = true → a.tmps.getD 11 undef = .int .i64 (n) := f11
    have f12 : (decide (lo ≤ n)) = true → a.tmps.getD 12 undef = .int .i64 (hi) := f12
    have f10 : a.tmps.getD 10 undef = .bool (decide (lo ≤ n)) := f10
    refine rely_if (rely_gt f10) (NewT.refl _) hK (fun hE hK => ?_)
    exact opr_cmp (b := decide (n ≤ hi)) (.inr (.inr (.inl ⟨rfl, rfl⟩))) Tryd.underlying3 rfl (f11 hE) (f12 hE) (hK _ _ (NewT.refl _) rfl)
  · intro a wx hT hF K hK
    obtain ⟨f10, f13, _⟩ := hF
    have f10 : a.tmps.getD 10 undef = .bool (decide (lo ≤ n)) := f10
    have f13 : (decide (lo ≤ n)) = true → a.tmps.getD 13 undef = .bool (decide (n ≤ hi)) := f13
    refine rely_wp rfl ?_
    exact opr_pick_b rfl f10 (fun hb => hK _ _ (NewT.refl _) (pn_and1 Q1_1 (f13 hb) hb)) (fun hb => hK _ _ (NewT.refl _) (pn_and0 Q1_1 hb))
  · intro a wx hT hF K hK
    obtain ⟨f14, _⟩ := hF
    have f14 : a.tmps.getD 14 undef = .bool (q1_1) := f14
    refine rely_wp rfl ?_
    exact opr_move (.inr rfl) (hK _ _ (NewT.refl _) f14)
  · intro wx hT
    intro u h; obtain rfl := Eq.symm (h (by simp)); clear h
    intro u h; obtain rfl := Eq.symm (h (by simp)); clear h
    intro u h; obtain rfl := Eq.symm (h (by simp)); clear h
    intro u h; obtain rfl := Eq.symm (h (by simp)); clear h
    intro _ _
    intro _ _
    intro _ _
    intro u h; obtain rfl := Eq.symm (h (by simp)); clear h
    intro u h; obtain rfl := Eq.symm (h (by simp)); clear h
    subst Q1_1
    refine relyEnd_nil rfl ?_
    refine wpList_end rfl ?_
    simp only [Act.put, List.setIfInBounds_toArray, List.set_cons_zero, List.set_cons_succ]
    go_simp
    go_wp2
    go_ret
    exact ⟨_, rfl, hT, rfl⟩
set_option maxHeartbeats 400000 in
theorem refIn_cv (n lo hi : Int) (w : World) : Cv 30 #[.int .i64 n, .int .i64 lo, .int .i64 hi] w (.eq (.bool (inR n lo hi))) := by
  unfold Cv
  go_enter Tryd.func30, Tryd.ntmps30
  go_upto_region 1 with fail
  obtain ⟨q1_1, Q1_1⟩ : ∃ q, ((decide (lo ≤ n)) && (decide (n ≤ hi))) = q := ⟨_, rfl⟩
  refine wp_region_steps0 NewT [SV.eq (.int .i64 (n)), SV.eq (.int .i64 (lo)), SV.eq (.bool (decide (lo ≤ n))), SV.eq (.bool (decide (lo ≤ n))), svIf (decide (lo ≤ n)) (SV.eq (.int .i64 (n))), svIf (decide (lo ≤ n)) (SV.eq (.int .i64 (hi))), svIf (decide (lo ≤ n)) (SV.eq (.bool (decide (n ≤ hi)))), SV.eq (.bool (q1_1)), SV.eq (.bool (q1_1))] [([(0, none)], none), ([(1, none)], none), ([(7, some 0), (8, some 1)], none), ([(9, some 2)], none), ([(0, none), (10, some 3)], some (10, true)), ([(2, none), (10, some 3)], some (10, true)), ([(11, some 4), (12, some 5), (10, some 3)], some (10, true)), ([(10, some 3), (13, some 6)], none), ([(14, some 7)], none)] 15 9 rfl rfl (by kernel_rfl) NewT.trans (NewT.refl _) (Nat.le_of_ble_eq_true rfl) ⟨?_, ?_, ?_, ?_, ?_, ?_, ?_, ?_, ?_, trivial⟩ ?_
  · intro a wx hT hF K hK
    obtain ⟨f0, _⟩ := hF
    have f0 : a.tmps.getD 0 undef = .int .i64 (n) := f0
    refine rely_wp rfl ?_
    exact opr_move (.inl rfl) (hK _ _ (NewT.refl _) f0)
  · intro a wx hT hF K hK
    obtain ⟨f1, _⟩ := hF
    have f1 : a.tmps.getD 1 undef = .int .i64 (lo) := f1
    refine rely_wp rfl ?_
    exact opr_move (.inl rfl) (hK _ _ (NewT.refl _) f1)
  · intro a wx hT hF K hK
    obtain ⟨f7, f8, _⟩ := hF
    have f7 : a.tmps.getD 7 undef = .int .i64 (n) := f7
    have f8 : a.tmps.getD 8 undef = .int .i64 (lo) := f8
    refine rely_wp rfl ?_
    exact opr_cmp (b := decide (lo ≤ n)) (.inr (.inr (.inr (.inr (.inr (⟨rfl, rfl⟩)))))) Tryd.underlying3 rfl f7 f8 (hK _ _ (NewT.refl _) rfl)
  · intro a wx hT hF K hK
    obtain ⟨f9, _⟩ := hF
    have f9 : a.tmps.getD 9 undef = .bool (decide (lo ≤ n)) := f9
    refine rely_wp rfl ?_
    exact opr_move (.inl rfl) (hK _ _ (NewT.refl _) f9)
  · intro a wx hT hF K hK
    obtain ⟨f0, f10, _⟩ := hF
    have f0 : a.tmps.getD 0 undef = .int .i64 (n) := f0
    have f10 : a.tmps.getD 10 undef = .bool (decide (lo ≤ n)) := f10
    refine rely_if (rely_gt f10) (NewT.refl _) hK (fun hE hK => ?_)
    exact opr_move (.inl rfl) (hK _ _ (NewT.refl _) f0)
  · intro a wx hT hF K hK
    obtain ⟨f2, f10, _⟩ := hF
    have f2 : a.tmps.getD 2 undef = .int .i64 (hi) := f2
    have f10 : a.tmps.getD 10 undef = .bool (decide (lo ≤ n)) := f10
    refine rely_if (rely_gt f10) (NewT.refl _) hK (fun hE hK => ?_)
    exact opr_move (.inl rfl) (hK _ _ (NewT.refl _) f2)
  · intro a wx hT hF K hK
    obtain ⟨f11, f12, f10, _⟩ := hF
    have f11 : (decide (lo ≤ n)) = true → a.tmps.getD 11 undef = .int .i64 (n) := f11
    have f12 : (decide (lo ≤ n)) = true → a.tmps.getD 12 undef = .int .i64 (hi) := f12
    have f10 : a.tmps.getD 10 undef = .bool (decide (lo ≤ n)) := f10
    refine rely_if (rely_gt f10) (NewT.refl _) hK (fun hE hK => ?_)
    exact opr_cmp (b := decide (n ≤ hi)) (.inr (.inr (.inl ⟨rfl, rfl⟩))) Tryd.underlying3 rfl (f11 hE) (f12 hE) (hK _ _ (NewT.refl _) rfl)
  · intro a wx hT hF K hK
    obtain ⟨f10, f13, _⟩ := hF
    have f10 : a.tmps.getD 10 undef = .bool (decide (lo ≤ n)) := f10
    have f13 : (decide (lo ≤ n)) = true → a.tmps.getD 13 undef = .bool (decide (n ≤ hi)) := f13
    refine rely_wp rfl ?_
    exact opr_pick_b rfl f10 (fun hb => hK _ _ (NewT.refl _) (pn_and1 Q1_1 (f13 hb) hb)) (fun hb => hK _ _ (NewT.refl _) (pn_and0 Q1_1 hb))
  · intro a wx hT hF K hK
    obtain ⟨f14, _⟩ := hF
    have f14 : a.tmps.getD 14 undef = .bool (q1_1) := f14
    refine rely_wp rfl ?_
    exact opr_move (.inr rfl) (hK _ _ (NewT.refl _) f14)
  · intro wx hT
    intro u h; obtain rfl := Eq.symm (h (by simp)); clear h
    intro u h; obtain rfl := Eq.symm (h (by simp)); clear h
    intro u h; obtain rfl := Eq.symm (h (by simp)); clear h
    intro u h; obtain rfl := Eq.symm (h (by simp)); clear h
    intro _ _
    intro _ _
    intro _ _
    intro u h; obtain rfl := Eq.symm (h (by simp)); clear h
    intro u h; obtain rfl := Eq.symm (h (by simp)); clear h
    subst Q1_1
    refine relyEnd_nil rfl ?_
    refine wpList_end rfl ?_
    simp only [Act.put, List.setIfInBounds_toArray, List.set_cons_zero, List.set_cons_succ]
    go_simp
    go_wp2
    go_ret
    exact ⟨_, rfl, hT, rfl⟩
set_option maxHeartbeats 400000 in
theorem isSaga_cv (n : Int) (w : World) : Cv 48 #[.int .i64 n] w (.eq (.bool (inR n 0 11))) := by
  unfold Cv
  go_enter Tryd.func48, Tryd.ntmps48
  go_upto_region 1 with fail
  refine wp_region_steps0 NewT [SV.eq (.int .i64 (n)), SV.eq (.bool (inR n 0 11)), SV.eq (.bool (inR n 0 11))] [([(0, none)], none), ([(3, some 0)], none), ([(4, some 1)], none)] 5 3 rfl rfl (by kernel_rfl) NewT.trans (NewT.refl _) (Nat.le_of_ble_eq_true rfl) ⟨?_, ?_, ?_, trivial⟩ ?_
  · intro a wx hT hF K hK
    obtain ⟨f0, _⟩ := hF
    have f0 : a.tmps.getD 0 undef = .int .i64 (n) := f0
    refine rely_wp rfl ?_
    exact opr_move (.inl rfl) (hK _ _ (NewT.refl _) f0)
  · intro a wx hT hF K hK
    obtain ⟨f3, _⟩ := hF
    have f3 : a.tmps.getD 3 undef = .int .i64 (n) := f3
    refine rely_wp rfl ?_
    exact opr_cv (within_cv n 0 11 wx) rfl Tryd.func45 (by kernel_rfl) (by kernel_rfl) (by simp only [List.map_toArray, List.map_cons, List.map_nil, eval_tmp, eval_const, f3]) hK
  · intro a wx hT hF K hK
    obtain ⟨f4, _⟩ := hF
    have f4 : a.tmps.getD 4 undef = .bool (inR n 0 11) := f4
    refine rely_wp rfl ?_
    exact opr_move (.inr rfl) (hK _ _ (NewT.refl _) f4)
  · intro wx hT
    intro u h; obtain rfl := Eq.symm (h (by simp)); clear h
    intro u h; obtain rfl := Eq.symm (h (by simp)); clear h
    intro u h; obtain rfl := Eq.symm (h (by simp)); clear h
    refine relyEnd_nil rfl ?_
    refine wpList_end rfl ?_
    simp only [Act.put, List.setIfInBounds_toArray, List.set_cons_zero, List.set_cons_succ]
    go_simp
    go_wp2
    go_ret
    exact ⟨_, rfl, hT, rfl⟩
set_option maxHeartbeats 400000 in
theorem isSeq_cv (n : Int) (w : World) : Cv 51 #[.int .i64 n] w (.eq (.bool (inR n 1 400))) := by
  unfold Cv
  go_enter Tryd.func51, Tryd.ntmps51
  go_upto_region 1 with fail
  refine wp_region_steps0 NewT [SV.eq (.int .i64 (n)), SV.eq (.bool (inR n 1 400)), SV.eq (.bool (inR n 1 400))] [([(0, none)], none), ([(3, some 0)], none), ([(4, some 1)], none)] 5 3 rfl rfl (by kernel_rfl) NewT.trans (NewT.refl _) (Nat.le_of_ble_eq_true rfl) ⟨?_, ?_, ?_, trivial⟩ ?_
  · intro a wx hT hF K hK
    obtain ⟨f0, _⟩ := hF
    have f0 : a.tmps.getD 0 undef = .int .i64 (n) := f0
    refine rely_wp rfl ?_
    exact opr_move (.inl rfl) (hK _ _ (NewT.refl _) f0)
  · intro a wx hT hF K hK
    obtain ⟨f3, _⟩ := hF
    have f3 : a.tmps.getD 3 undef = .int .i64 (n) := f3
    refine rely_wp rfl ?_
    exact opr_cv (within_cv n 1 400 wx) rfl Tryd.func45 (by kernel_rfl) (by kernel_rfl) (by simp only [List.map_toArray, List.map_cons, List.map_nil, eval_tmp, eval_const, f3]) hK
  · intro a wx hT hF K hK
    obtain ⟨f4, _⟩ := hF
    have f4 : a.tmps.getD 4 undef = .bool (inR n 1 400) := f4
    refine rely_wp rfl ?_
    exact opr_move (.inr rfl) (hK _ _ (NewT.refl _) f4)
  · intro wx hT
    intro u h; obtain rfl := Eq.symm (h (by simp)); clear h
    intro u h; obtain rfl := Eq.symm (h (by simp)); clear h
    intro u h; obtain rfl := Eq.symm (h (by simp)); clear h
    refine relyEnd_nil rfl ?_
    refine wpList_end rfl ?_
    simp only [Act.put, List.setIfInBounds_toArray, List.set_cons_zero, List.set_cons_succ]
    go_simp
    go_wp2
    go_ret
    exact ⟨_, rfl, hT, rfl⟩
set_option maxHeartbeats 400000 in
theorem isPart_cv (n : Int) (w : World) : Cv 50 #[.int .i64 n] w (.eq (.bool (inR n 0 3))) := by
  unfold Cv
  go_enter Tryd.func50, Tryd.ntmps50
  go_upto_region 1 with fail
  refine wp_region_steps0 NewT [SV.eq (.int .i64 (n)), SV.eq (.bool (inR n 0 3)), SV.eq (.bool (inR n 0 3))] [([(0, none)], none), ([(3, some 0)], none), ([(4, some 1)], none)] 5 3 rfl rfl (by kernel_rfl) NewT.trans (NewT.refl _) (Nat.le_of_ble_eq_true rfl) ⟨?_, ?_, ?_, trivial⟩ ?_
  · intro a wx hT hF K hK
    obtain ⟨f0, _⟩ := hF
    have f0 : a.tmps.getD 0 undef = .int .i64 (n) := f0
    refine rely_wp rfl ?_
    exact opr_move (.inl rfl) (hK _ _ (NewT.refl _) f0)
  · intro a wx hT hF K hK
    obtain ⟨f3, _⟩ := hF
    have f3 : a.tmps.getD 3 undef = .int .i64 (n) := f3
    refine rely_wp rfl ?_
    exact opr_cv (within_cv n 0 3 wx) rfl Tryd.func45 (by kernel_rfl) (by kernel_rfl) (by simp only [List.map_toArray, List.map_cons, List.map_nil, eval_tmp, eval_const, f3]) hK
  · intro a wx hT hF K hK
    obtain ⟨f4, _⟩ := hF
    have f4 : a.tmps.getD 4 undef = .bool (inR n 0 3) := f4
    refine rely_wp rfl ?_
    exact opr_move (.inr rfl) (hK _ _ (NewT.refl _) f4)
  · intro wx hT
    intro u h; obtain rfl := Eq.symm (h (by simp)); clear h
    intro u h; obtain rfl := Eq.symm (h (by simp)); clear h
    intro u h; obtain rfl := Eq.symm (h (by simp)); clear h
    refine relyEnd_nil rfl ?_
    refine wpList_end rfl ?_
    simp only [Act.put, List.setIfInBounds_toArray, List.set_cons_zero, List.set_cons_succ]
    go_simp
    go_wp2
    go_ret
    exact ⟨_, rfl, hT, rfl⟩
set_option maxHeartbeats 400000 in
theorem isStep_cv (s : Int × Int) (w : World) : Cv 68 #[.agg (rowA 2 (stepF s))] w (.eq (.bool (stepOk s))) := by
  unfold Cv
  go_enter Tryd.func68, Tryd.ntmps68
  go_upto_region 1 with fail
  have r1 := rowIs_box w 46 2 (stepF s)
  have hN := NewT.alloc w (.cells (rowA 2 (stepF s)) 46)
  change Code.wp _ _ _ _ (w.alloc (.cells (rowA 2 (stepF s)) 46))
  generalize w.alloc (.cells (rowA 2 (stepF s)) 46) = W0 at r1 hN ⊢
  have R1 := Lib.hid r1
  have HN := Lib.hid hN
  clear r1 hN
  refine wp_region_steps0 NewT [SV.eq (.pointer (some ⟨w.heap.size, 0 + 0, none⟩)), SV.eq (.int .i64 (s.1)), SV.eq (.bool (inR s.1 0 3)), SV.eq (.bool (inR s.1 0 3)), svIf (inR s.1 0 3) (SV.eq (.pointer (some ⟨w.heap.size, 0 + 1, none⟩))), svIf (inR s.1 0 3) (SV.eq (.int .i64 (s.2))), svIf (inR s.1 0 3) (SV.eq (.bool (inR s.2 1 3))), SV.eq (.bool ((inR s.1 0 3) && (inR s.2 1 3))), SV.eq (.bool ((inR s.1 0 3) && (inR s.2 1 3)))] [([(1, none)], none), ([(3, some 0)], none), ([(4, some 1)], none), ([(5, some 2)], none), ([(1, none), (6, some 3)], some (6, true)), ([(7, some 4), (6, some 3)], some (6, true)), ([(8, some 5), (6, some 3)], some (6, true)), ([(6, some 3), (9, some 6)], none), ([(10, some 7)], none)] 11 9 rfl rfl (by kernel_rfl) NewT.trans (NewT.refl _) (Nat.le_of_ble_eq_true rfl) ⟨?_, ?_, ?_, ?_, ?_, ?_, ?_, ?_, ?_, trivial⟩ ?_
  · intro a wx hT hF K hK
    obtain ⟨f1, _⟩ := hF
    have f1 : a.tmps.getD 1 undef = .pointer (some ⟨w.heap.size, 0, none⟩) := f1
    refine rely_wp rfl ?_
    exact opr_fldS (by decide) rfl f1 (hK _ _ (NewT.refl _) rfl)
  · intro a wx hT hF K hK
    obtain ⟨f3, _⟩ := hF
    have f3 : a.tmps.getD 3 undef = .pointer (some ⟨w.heap.size, 0 + 0, none⟩) := f3
    refine rely_wp rfl ?_
    exact opr_ldI (hT.row R1.out) (by decide) rfl rfl f3 (hK _ _ (NewT.refl _) rfl)
  · intro a wx hT hF K hK
    obtain ⟨f4, _⟩ := hF
    have f4 : a.tmps.getD 4 undef = .int .i64 (s.1) := f4
    refine rely_wp rfl ?_
    exact opr_cv (isPart_cv s.1 wx) rfl Tryd.func50 (by kernel_rfl) (by kernel_rfl) (by simp only [List.map_toArray, List.map_cons, List.map_nil, eval_tmp, f4]) hK
  · intro a wx hT hF K hK
    obtain ⟨f5, _⟩ := hF
    have f5 : a.tmps.getD 5 undef = .bool (inR s.1 0 3) := f5
    refine rely_wp rfl ?_
    exact opr_move (.inl rfl) (hK _ _ (NewT.refl _) f5)
  · intro a wx hT hF K hK
    obtain ⟨f1, f6, _⟩ := hF
    have f1 : a.tmps.getD 1 undef = .pointer (some ⟨w.heap.size, 0, none⟩) := f1
    have f6 : a.tmps.getD 6 undef = .bool (inR s.1 0 3) := f6
    refine rely_if (rely_gt f6) (NewT.refl _) hK (fun hE hK => ?_)
    exact opr_fldS (by decide) rfl f1 (hK _ _ (NewT.refl _) rfl)
  · intro a wx hT hF K hK
    obtain ⟨f7, f6, _⟩ := hF
    have f7 : (inR s.1 0 3) = true → a.tmps.getD 7 undef = .pointer (some ⟨w.heap.size, 0 + 1, none⟩) := f7
    have f6 : a.tmps.getD 6 undef = .bool (inR s.1 0 3) := f6
    refine rely_if (rely_gt f6) (NewT.refl _) hK (fun hE hK => ?_)
    exact opr_ldI (hT.row R1.out) (by decide) rfl rfl (f7 hE) (hK _ _ (NewT.refl _) rfl)
  · intro a wx hT hF K hK
    obtain ⟨f8, f6, _⟩ := hF
    have f8 : (inR s.1 0 3) = true → a.tmps.getD 8 undef = .int .i64 (s.2) := f8
    have f6 : a.tmps.getD 6 undef = .bool (inR s.1 0 3) := f6
    refine rely_if (rely_gt f6) (NewT.refl _) hK (fun hE hK => ?_)
    exact opr_cv (within_cv s.2 1 3 wx) rfl Tryd.func45 (by kernel_rfl) (by kernel_rfl) (by simp only [List.map_toArray, List.map_cons, List.map_nil, eval_tmp, eval_const, (f8 hE)]) hK
  · intro a wx hT hF K hK
    obtain ⟨f6, f9, _⟩ := hF
    have f6 : a.tmps.getD 6 undef = .bool (inR s.1 0 3) := f6
    have f9 : (inR s.1 0 3) = true → a.tmps.getD 9 undef = .bool (inR s.2 1 3) := f9
    refine rely_wp rfl ?_
    exact opr_pick_b rfl f6 (fun hb => hK _ _ (NewT.refl _) (pk_and1 (f9 hb) hb)) (fun hb => hK _ _ (NewT.refl _) (pk_and0 hb))
  · intro a wx hT hF K hK
    obtain ⟨f10, _⟩ := hF
    have f10 : a.tmps.getD 10 undef = .bool ((inR s.1 0 3) && (inR s.2 1 3)) := f10
    refine rely_wp rfl ?_
    exact opr_move (.inr rfl) (hK _ _ (NewT.refl _) f10)
  · intro wx hT
    intro u h; obtain rfl := Eq.symm (h (by simp)); clear h
    intro u h; obtain rfl := Eq.symm (h (by simp)); clear h
    intro u h; obtain rfl := Eq.symm (h (by simp)); clear h
    intro u h; obtain rfl := Eq.symm (h (by simp)); clear h
    intro _ _
    intro _ _
    intro _ _
    intro u h; obtain rfl := Eq.symm (h (by simp)); clear h
    intro u h; obtain rfl := Eq.symm (h (by simp)); clear h
    refine relyEnd_nil rfl ?_
    refine wpList_end rfl ?_
    simp only [Act.put, List.setIfInBounds_toArray, List.set_cons_zero, List.set_cons_succ]
    go_simp
    go_wp2
    go_ret
    exact ⟨_, rfl, NewT.trans _ _ _ HN.out hT, rfl⟩
theorem all_next (l : List (Int × Int)) (k : Nat) (hk : k < l.length) : (l.take (k + 1)).all stepOk = ((l.take k).all stepOk && stepOk (l.getD k (0, 0))) := by
  have e : l.take (k + 1) = l.take k ++ [l[k]] := by rw [List.take_add_one, List.getElem?_eq_getElem hk]; rfl
  rw [e, List.all_append]
  simp [List.getD, hk]
theorem all_not (l : List (Int × Int)) (k : Nat) (hk : k < l.length) (h : stepOk (l.getD k (0, 0)) = false) : l.all stepOk = false := by
  rw [List.all_eq_false]
  refine ⟨l.getD k (0, 0), ?_, by rw [h]; simp⟩
  simp [List.getD, hk]
set_option maxHeartbeats 1000000 in
theorem areSteps_cv (v : Value) (l : List (Int × Int)) (w : World) (h : RdP w v l) : Cv 49 #[v] w (.eq (.bool (stepsOk l))) := by
  unfold Cv
  obtain ⟨A0, cap, rfl, h1, h2, h3⟩ := h
  have H3 := Lib.hid h3
  unfold maxLen at h2
  unfold stepsOk
  clear h3
  generalize hn : l.length = n at *
  have Hn := Lib.hid hn
  clear hn
  cases hin : inR (n : Int) 1 6
  · go_enter Tryd.func49, Tryd.ntmps49
    go_wp2_with (go_at_call 45; refine (within_cv n 1 6 w).eq.mono ?_; rintro _ w' ⟨rfl, hB⟩; rw [hin])
    go_ret
    exact ⟨_, rfl, hB, by rw [Bool.false_and]; rfl⟩
  rw [Bool.true_and]
  have hr := (inR_iff _ _ _).1 hin
  go_enter Tryd.func49, Tryd.ntmps49
  go_wp2_with (go_at_call 45; refine (within_cv n 1 6 w).eq.mono ?_; rintro _ w' ⟨rfl, hB⟩; rw [hin])
  go_loopw [11] (fun i wr => ∃ k : Nat, k ≤ n ∧ i = .int .i64 k ∧ Hid ((l.take k).all stepOk = true) ∧ Below w.heap.size w wr) (fun i _ => n - (intOf i).toNat)
  case atStart => exact ⟨0, by omega, rfl, Lib.hid (by simp), hB⟩
  case round =>
    clear hB hin
    obtain ⟨k, hk, rfl, Hs, qB⟩ := hrel
    by_cases hlt : k < n
    · obtain ⟨b, o, rfl, hcell⟩ := H3.out (by omega)
      obtain ⟨j0, j1⟩ := hcell k hlt
      have k0 := (qB.cell (p := ⟨b, o + 2 * k, none⟩) (World.block_lt_of_cell? _ _ j0)).trans j0
      have k1 := (qB.cell (p := ⟨b, o + 2 * k + 1, none⟩) (World.block_lt_of_cell? _ _ j1)).trans j1
      have Hal := Lib.hid (all_next l k (by rw [Hn.out]; exact hlt))
      have Hno := Lib.hid (all_not l k (by rw [Hn.out]; exact hlt))
      clear hcell j0 j1
      generalize l.getD k (0, 0) = s at k0 k1 Hal Hno
      have it : (k : Int) < (n : Int) := by omega
      cases hq : stepOk s
      · have Hq := Lib.hid hq
        clear hq
        go_upto_region 5 with fail
        refine wp_region_steps0 NewT [SV.eq (.pointer (some ⟨b, o + 2 * k, none⟩)), SV.eq (.agg (rowA 2 (stepF s)))] [([(9, none), (11, none)], none), ([(13, some 0)], none)] 19 2 rfl rfl (by kernel_rfl) NewT.trans (NewT.refl _) (Nat.le_of_ble_eq_true rfl) ⟨?_, ?_, trivial⟩ ?_
        · intro a wx hT hF K hK
          obtain ⟨f9, f11, _⟩ := hF
          have f9 : a.tmps.getD 9 undef = .slice (some ⟨b, o, none⟩) n cap := f9
          have f11 : a.tmps.getD 11 undef = .int .i64 ((k : Int)) := f11
          refine rely_wp rfl ?_
          exact opr_idxS hlt rfl f9 f11 (hK _ _ (NewT.refl _) rfl)
        · intro a wx hT hF K hK
          obtain ⟨f13, _⟩ := hF
          have f13 : a.tmps.getD 13 undef = .pointer (some ⟨b, o + 2 * k, none⟩) := f13
          refine rely_wp rfl ?_
          exact opr_ld2 ((hT.out.cell (World.block_lt_of_cell? _ _ k0)).trans k0) ((hT.out.cell (World.block_lt_of_cell? _ _ k1)).trans k1) rfl f13 (hK _ _ (NewT.refl _) rfl)
        · intro w5 h5
          intro u h; obtain rfl := Eq.symm (h (by simp)); clear h
          intro u h; obtain rfl := Eq.symm (h (by simp)); clear h
          refine relyEnd_nil rfl ?_
          simp only [Act.put, List.setIfInBounds_toArray, List.set_cons_zero, List.set_cons_succ]
          refine wpList_new (n := 2) rfl rfl rfl rfl rfl rfl (by simp) run_alloc_step info_step (stepF_one s) rfl ?_
          intro wn hNn rn
          refine wpList_end rfl ?_
          simp only [Act.put, List.setIfInBounds_toArray, List.set_cons_zero, List.set_cons_succ]
          go_simp
          clear k0 k1
          go_upto_region 6 with fail
          refine wp_region_steps0 NewT [SV.eq (.agg (rowA 2 (stepF s))), SV.eq (.bool false), SV.eq (.bool true)] [([(4, none)], none), ([(15, some 0)], none), ([(16, some 1)], none)] 19 3 rfl rfl (by kernel_rfl) NewT.trans (NewT.refl _) (Nat.le_of_ble_eq_true rfl) ⟨?_, ?_, ?_, trivial⟩ ?_
          · intro a wx hT hF K hK
            obtain ⟨f4, _⟩ := hF
            have f4 : a.tmps.getD 4 undef = .pointer (some ⟨w5.heap.size, 0, none⟩) := f4
            refine rely_wp rfl ?_
            exact opr_ldSt (hT.row rn) rfl f4 (hK _ _ (NewT.refl _) rfl)
          · intro a wx hT hF K hK
            obtain ⟨f15, _⟩ := hF
            have f15 : a.tmps.getD 15 undef = .agg (rowA 2 (stepF s)) := f15
            refine rely_wp rfl ?_
            exact opr_cv (Hq.out ▸ isStep_cv s wx) rfl Tryd.func68 (by kernel_rfl) (by kernel_rfl) (by simp only [List.map_toArray, List.map_cons, List.map_nil, eval_tmp, f15]) hK
          · intro a wx hT hF K hK
            obtain ⟨f16, _⟩ := hF
            have f16 : a.tmps.getD 16 undef = .bool false := f16
            refine rely_wp rfl ?_
            exact opr_not rfl f16 (hK _ _ (NewT.refl _) rfl)
          · intro wy hT2
            intro u h; obtain rfl := Eq.symm (h (by simp)); clear h
            intro u h; obtain rfl := Eq.symm (h (by simp)); clear h
            intro u h; obtain rfl := Eq.symm (h (by simp)); clear h
            refine relyEnd_nil rfl ?_
            refine wpList_end rfl ?_
            simp only [Act.put, List.setIfInBounds_toArray, List.set_cons_zero, List.set_cons_succ]
            go_simp
            have hB2 : Below w.heap.size w wy := qB.trans ((h5.out.mono qB.size).trans ((hNn.out.mono (Nat.le_trans qB.size h5.out.size)).trans (hT2.out.mono (Nat.le_trans qB.size (Nat.le_trans h5.out.size hNn.out.size)))))
            go_wp2
            go_ret
            exact ⟨_, rfl, hB2, by rw [Hno.out Hq.out]; rfl⟩
      · have Hq := Lib.hid hq
        clear hq
        go_upto_region 5 with fail
        refine wp_region_steps0 NewT [SV.eq (.pointer (some ⟨b, o + 2 * k, none⟩)), SV.eq (.agg (rowA 2 (stepF s)))] [([(9, none), (11, none)], none), ([(13, some 0)], none)] 19 2 rfl rfl (by kernel_rfl) NewT.trans (NewT.refl _) (Nat.le_of_ble_eq_true rfl) ⟨?_, ?_, trivial⟩ ?_
        · intro a wx hT hF K hK
          obtain ⟨f9, f11, _⟩ := hF
          have f9 : a.tmps.getD 9 undef = .slice (some ⟨b, o, none⟩) n cap := f9
          have f11 : a.tmps.getD 11 undef = .int .i64 ((k : Int)) := f11
          refine rely_wp rfl ?_
          exact opr_idxS hlt rfl f9 f11 (hK _ _ (NewT.refl _) rfl)
        · intro a wx hT hF K hK
          obtain ⟨f13, _⟩ := hF
          have f13 : a.tmps.getD 13 undef = .pointer (some ⟨b, o + 2 * k, none⟩) := f13
          refine rely_wp rfl ?_
          exact opr_ld2 ((hT.out.cell (World.block_lt_of_cell? _ _ k0)).trans k0) ((hT.out.cell (World.block_lt_of_cell? _ _ k1)).trans k1) rfl f13 (hK _ _ (NewT.refl _) rfl)
        · intro w5 h5
          intro u h; obtain rfl := Eq.symm (h (by simp)); clear h
          intro u h; obtain rfl := Eq.symm (h (by simp)); clear h
          refine relyEnd_nil rfl ?_
          simp only [Act.put, List.setIfInBounds_toArray, List.set_cons_zero, List.set_cons_succ]
          refine wpList_new (n := 2) rfl rfl rfl rfl rfl rfl (by simp) run_alloc_step info_step (stepF_one s) rfl ?_
          intro wn hNn rn
          refine wpList_end rfl ?_
          simp only [Act.put, List.setIfInBounds_toArray, List.set_cons_zero, List.set_cons_succ]
          go_simp
          clear k0 k1
          go_upto_region 6 with fail
          refine wp_region_steps0 NewT [SV.eq (.agg (rowA 2 (stepF s))), SV.eq (.bool true), SV.eq (.bool false)] [([(4, none)], none), ([(15, some 0)], none), ([(16, some 1)], none)] 19 3 rfl rfl (by kernel_rfl) NewT.trans (NewT.refl _) (Nat.le_of_ble_eq_true rfl) ⟨?_, ?_, ?_, trivial⟩ ?_
          · intro a wx hT hF K hK
            obtain ⟨f4, _⟩ := hF
            have f4 : a.tmps.getD 4 undef = .pointer (some ⟨w5.heap.size, 0, none⟩) := f4
            refine rely_wp rfl ?_
            exact opr_ldSt (hT.row rn) rfl f4 (hK _ _ (NewT.refl _) rfl)
          · intro a wx hT hF K hK
            obtain ⟨f15, _⟩ := hF
            have f15 : a.tmps.getD 15 undef = .agg (rowA 2 (stepF s)) := f15
            refine rely_wp rfl ?_
            exact opr_cv (Hq.out ▸ isStep_cv s wx) rfl Tryd.func68 (by kernel_rfl) (by kernel_rfl) (by simp only [List.map_toArray, List.map_cons, List.map_nil, eval_tmp, f15]) hK
          · intro a wx hT hF K hK
            obtain ⟨f16, _⟩ := hF
            have f16 : a.tmps.getD 16 undef = .bool true := f16
            refine rely_wp rfl ?_
            exact opr_not rfl f16 (hK _ _ (NewT.refl _) rfl)
          · intro wy hT2
            intro u h; obtain rfl := Eq.symm (h (by simp)); clear h
            intro u h; obtain rfl := Eq.symm (h (by simp)); clear h
            intro u h; obtain rfl := Eq.symm (h (by simp)); clear h
            refine relyEnd_nil rfl ?_
            refine wpList_end rfl ?_
            simp only [Act.put, List.setIfInBounds_toArray, List.set_cons_zero, List.set_cons_succ]
            go_simp
            have hB2 : Below w.heap.size w wy := qB.trans ((h5.out.mono qB.size).trans ((hNn.out.mono (Nat.le_trans qB.size h5.out.size)).trans (hT2.out.mono (Nat.le_trans qB.size (Nat.le_trans h5.out.size hNn.out.size)))))
            go_wp2
            go_roundw
            case rel => exact ⟨k + 1, by omega, by go_num, Lib.hid (by rw [Hal.out, Hs.out, Hq.out]; rfl), hB2⟩
            case measure => simp [intOf]; omega
    · obtain rfl : k = n := by omega
      go_wp2
      go_ret
      exact ⟨_, rfl, qB, by have := Hs.out; rw [← Hn.out, List.take_length] at this; rw [this]; rfl⟩
end Go.Proofs.YthgblcpekhiphaaDoor
/- The reference's Bytes, at whatever lists. -/
namespace Go.Proofs.YthgblcpekhiphaaDoor
open Go Go.RowKit
set_option maxRecDepth 8000
theorem rd_cells {W : World} {A : Option Addr} {n c : Nat} {l : List UInt8} (h : RdV W [] (.slice A n c) l) : l.length = n ∧ ∀ i, i < n → ∃ b o, A = some ⟨b, o, none⟩ ∧ ∀ j, j < n → W.cell? ⟨b, o + j, none⟩ = some (.int .u8 (bN (bAt l j))) := by
  obtain ⟨A', c', hv, _, _, hc⟩ := h
  cases hv
  refine ⟨rfl, fun i hi => ?_⟩
  obtain ⟨b, o, h1, _, h2⟩ := hc (by omega)
  exact ⟨b, o, h1, h2⟩
/-- The same up to a place. -/
def sameTo (l m : List UInt8) (k : Nat) : Prop := ∀ i, i < k → bAt l i = bAt m i
theorem eq_of_sameTo {l m : List UInt8} (hl : l.length = m.length) (h : sameTo l m l.length) : l = m := by
  apply List.ext_getElem hl
  intro i h1 h2
  have := h i h1
  simpa [bAt, h1, h2] using this
set_option maxHeartbeats 1000000 in
theorem Bytes_any (A1 A2 : Option Addr) (n1 c1 n2 c2 : Nat) (l m : List UInt8) (w : World) (h1 : RdV w [] (.slice A1 n1 c1) l) (h2 : RdV w [] (.slice A2 n2 c2) m) (hn1 : n1 ≤ 1000000) (hn2 : n2 ≤ 1000000) :
    Cv 19 #[.slice A1 n1 c1, .slice A2 n2 c2] w (.eq (.bool (decide (l = m)))) := by
  unfold Cv
  obtain ⟨e1, k1⟩ := rd_cells h1
  obtain ⟨e2, k2⟩ := rd_cells h2
  have E1 := Lib.hid e1
  have E2 := Lib.hid e2
  have H1 := Lib.hid k1
  have H2 := Lib.hid k2
  clear h1 h2 e1 e2 k1 k2
  by_cases hne : n1 = n2
  · subst hne
    go_enter Tryd.func19, Tryd.ntmps19
    go_wp2
    go_loopw [5] (fun i wr => ∃ k : Nat, k ≤ n1 ∧ i = .int .i64 k ∧ Hid (sameTo l m k) ∧ Hid (∀ a, wr.cell? a = w.cell? a) ∧ Below w.heap.size w wr) (fun i _ => n1 - (intOf i).toNat)
    case atStart => exact ⟨0, by omega, rfl, Lib.hid (fun i hi => by omega), Lib.hid (fun _ => rfl), Below.refl _ _⟩
    case round =>
      obtain ⟨k, hk, rfl, Hs, Hcell, qB⟩ := hrel
      by_cases hlt : k < n1
      · obtain ⟨b1, o1, rfl, j1⟩ := H1.out k hlt
        obtain ⟨b2, o2, rfl, j2⟩ := H2.out k hlt
        have c1' := (Hcell.out ⟨b1, o1 + k, none⟩).trans (j1 k hlt)
        have c2' := (Hcell.out ⟨b2, o2 + k, none⟩).trans (j2 k hlt)
        have it : (k : Int) < (n1 : Int) := by omega
        clear j1 j2
        by_cases hb : bAt l k = bAt m k
        · have hq : (bN (bAt l k) != bN (bAt m k)) = false := by rw [hb]; simp
          have Hb := Lib.hid hb
          clear hb
          generalize hx : bN (bAt l k) = x at c1' hq
          generalize hy : bN (bAt m k) = y at c2' hq
          clear hx hy
          go_wp2
          refine wp_region_still_lit (by kernel_rfl) (by kernel_rfl) ?_
          repeat (refine wpStill_step (fun K hK => ?_); go_simp; (try go_bits); refine hK _ ?_; clear hK K)
          refine wpStill_nil ?_
          go_wp2
          go_roundw
          case rel => exact ⟨k + 1, by omega, by go_num, Lib.hid (fun i hi => by
            rcases Nat.lt_succ_iff_lt_or_eq.1 hi with h | rfl
            · exact Hs.out i h
            · exact Hb.out), Lib.hid (fun a => Hcell.out a), qB.drew⟩
          case measure => simp [intOf]; omega
        · have hq : (bN (bAt l k) != bN (bAt m k)) = true := by simpa using fun h => hb (bN_inj h)
          have Hb := Lib.hid hb
          clear hb
          generalize hx : bN (bAt l k) = x at c1' hq
          generalize hy : bN (bAt m k) = y at c2' hq
          clear hx hy
          go_wp2
          refine wp_region_still_lit (by kernel_rfl) (by kernel_rfl) ?_
          repeat (refine wpStill_step (fun K hK => ?_); go_simp; (try go_bits); refine hK _ ?_; clear hK K)
          refine wpStill_nil ?_
          go_wp2
          go_ret
          refine ⟨_, rfl, qB.drew, ?_⟩
          show Value.bool false = _
          congr 1
          exact (decide_eq_false fun h => Hb.out (by rw [h])).symm
      · obtain rfl : k = n1 := by omega
        go_wp2
        go_ret
        refine ⟨_, rfl, qB, ?_⟩
        show Value.bool true = _
        congr 1
        exact (decide_eq_true (eq_of_sameTo (E1.out.trans E2.out.symm) (by rw [E1.out]; exact Hs.out))).symm
  · have hq : ((n1 : Int) != (n2 : Int)) = true := by simp; omega
    have hq2 : (n1 != n2) = true := by simpa using hne
    go_enter Tryd.func19, Tryd.ntmps19
    go_wp2
    go_ret
    refine ⟨_, rfl, Below.refl _ _, ?_⟩
    show Value.bool false = _
    congr 1
    exact (decide_eq_false fun h => hne (by rw [← E1.out, ← E2.out, h])).symm
theorem Bytes_cv (v1 v2 : Value) (l m : List UInt8) (w : World) (h1 : RdV w [] v1 l) (h2 : RdV w [] v2 m) (hl : l.length ≤ 1000000) (hm : m.length ≤ 1000000) :
    Cv 19 #[v1, v2] w (.eq (.bool (decide (l = m)))) := by
  have g1 := h1
  have g2 := h2
  obtain ⟨A1, c1, rfl, _⟩ := g1
  obtain ⟨A2, c2, rfl, _⟩ := g2
  exact Bytes_any A1 A2 _ c1 _ c2 l m w h1 h2 hl hm
end Go.Proofs.YthgblcpekhiphaaDoor
/- Slices compared and cloned. -/
namespace Go.Proofs.YthgblcpekhiphaaDoor
open Go Go.RowKit
set_option maxRecDepth 8000
theorem strEq2 (l m : List UInt8) : (l == m) = decide (l = m) := by
  by_cases h : l = m
  · subst h; simp
  · simp [h]
set_option maxHeartbeats 400000 in
theorem BEqual_cv (v1 v2 : Value) (l m : List UInt8) (w : World) (h1 : RdV w [] v1 l) (h2 : RdV w [] v2 m) : Cv 37 #[v1, v2] w (.eq (.bool (decide (l = m)))) := by
  unfold Cv
  have k1 := conv_rd h1
  have k2 := conv_rd h2
  clear h1 h2
  rw [← strEq2]
  go_enter Tryd.func37, Tryd.ntmps37
  go_wp2
  go_ret
  exact ⟨_, rfl, NewT.refl _, rfl⟩
theorem pairs_ext {l m : List (Int × Int)} {n : Nat} (hl : l.length = n) (hm : m.length = n) (h : ∀ i, i < n → l.getD i (0, 0) = m.getD i (0, 0)) : l = m := by
  apply List.ext_getElem (by omega)
  intro i h1 h2
  have := h i (by omega)
  simpa [List.getD, h1, h2] using this
set_option maxHeartbeats 1000000 in
theorem Equal_cv (v1 v2 : Value) (l m : List (Int × Int)) (w : World) (h1 : RdP w v1 l) (h2 : RdP w v2 m) : Cv 36 #[v1, v2] w (.eq (.bool (decide (l = m)))) := by
  unfold Cv
  obtain ⟨A1, c1, rfl, p1, p2, p3⟩ := h1
  obtain ⟨A2, c2, rfl, q1, q2, q3⟩ := h2
  unfold maxLen at p2 q2
  by_cases hne : l.length = m.length
  rotate_left
  · have hd : decide (l = m) = false := decide_eq_false fun h => hne (by rw [h])
    have ht : ((l.length : Int) != (m.length : Int)) = true := by simp; omega
    rw [hd]
    clear p3 q3 hd
    generalize l.length = n1 at *
    generalize m.length = n2 at *
    go_enter Tryd.func36, Tryd.ntmps36
    go_wp2
    go_ret
    exact ⟨_, rfl, NewT.refl _, rfl⟩
  have P3 := Lib.hid p3
  have Q3 := Lib.hid q3
  clear p3 q3
  generalize hn : l.length = n at *
  rw [← hne] at q1 Q3 ⊢
  have Hn := Lib.hid hn
  have Hm := Lib.hid hne
  clear hn hne
  go_enter Tryd.func36, Tryd.ntmps36
  go_wp2
  go_loopw [13] (fun i wr => ∃ k : Nat, k ≤ n ∧ i = .int .i64 k ∧ Hid (∀ i, i < k → l.getD i (0, 0) = m.getD i (0, 0)) ∧ Below w.heap.size w wr) (fun i _ => n - (intOf i).toNat)
  case atStart => exact ⟨0, by omega, rfl, Lib.hid (fun i hi => by omega), Below.refl _ _⟩
  case round =>
    obtain ⟨k, hk, rfl, Hs, qB⟩ := hrel
    by_cases hlt : k < n
    · obtain ⟨b1, o1, rfl, hc1⟩ := P3.out (by omega)
      obtain ⟨b2, o2, rfl, hc2⟩ := Q3.out (by omega)
      obtain ⟨j0, j1⟩ := hc1 k hlt
      obtain ⟨i0, i1⟩ := hc2 k hlt
      have k0 := (qB.cell (p := ⟨b1, o1 + 2 * k, none⟩) (World.block_lt_of_cell? _ _ j0)).trans j0
      have k1 := (qB.cell (p := ⟨b1, o1 + 2 * k + 1, none⟩) (World.block_lt_of_cell? _ _ j1)).trans j1
      have e0 := (qB.cell (p := ⟨b2, o2 + 2 * k, none⟩) (World.block_lt_of_cell? _ _ i0)).trans i0
      have e1 := (qB.cell (p := ⟨b2, o2 + 2 * k + 1, none⟩) (World.block_lt_of_cell? _ _ i1)).trans i1
      have Hno : Hid (l.getD k (0, 0) ≠ m.getD k (0, 0) → l ≠ m) := Lib.hid (fun h e => h (by rw [e]))
      have Hnx : Hid (l.getD k (0, 0) = m.getD k (0, 0) → ∀ i, i < k + 1 → l.getD i (0, 0) = m.getD i (0, 0)) := Lib.hid (fun h i hi => by
        rcases Nat.lt_succ_iff_lt_or_eq.1 hi with h1 | rfl
        · exact Hs.out i h1
        · exact h)
      clear hc1 hc2 j0 j1 i0 i1
      generalize l.getD k (0, 0) = s at k0 k1 Hno Hnx
      generalize m.getD k (0, 0) = t at e0 e1 Hno Hnx
      have it : (k : Int) < (n : Int) := by omega
      by_cases hq : s = t
      · go_upto_region 6 with fail
        generalize wr = W6 at *
        refine wp_region_rely NewT [SV.eq (.slice (some ⟨b1, o1, none⟩) n c1), SV.eq (.int .i64 ((k : Int))), SV.eq (.pointer (some ⟨b1, o1 + 2 * k, none⟩)), SV.eq (.agg (rowA 2 (stepF s))), SV.eq (.slice (some ⟨b2, o2, none⟩) n c2), SV.eq (.int .i64 ((k : Int))), SV.eq (.pointer (some ⟨b2, o2 + 2 * k, none⟩)), SV.eq (.agg (rowA 2 (stepF t)))] [([(0, none)], none), ([(5, none)], none), ([(16, some 0), (17, some 1)], none), ([(18, some 2)], none), ([(1, none)], none), ([(5, none)], none), ([(20, some 4), (21, some 5)], none), ([(22, some 6)], none)] 26 rfl (by kernel_rfl) rfl (by kernel_rfl) (by kernel_rfl) rfl NewT.trans (NewT.drew _) (Nat.le_of_ble_eq_true rfl) ⟨?_, ?_, ?_, ?_, ?_, ?_, ?_, ?_, trivial⟩ ?_
        · intro a wx hT hF K hK
          obtain ⟨f0, _⟩ := hF
          have f0 : a.tmps.getD 0 undef = .slice (some ⟨b1, o1, none⟩) n c1 := f0
          refine rely_wp rfl ?_
          exact opr_move (.inl rfl) (hK _ _ (NewT.refl _) f0)
        · intro a wx hT hF K hK
          obtain ⟨f5, _⟩ := hF
          have f5 : a.tmps.getD 5 undef = .int .i64 ((k : Int)) := f5
          refine rely_wp rfl ?_
          exact opr_move (.inl rfl) (hK _ _ (NewT.refl _) f5)
        · intro a wx hT hF K hK
          obtain ⟨f16, f17, _⟩ := hF
          have f16 : a.tmps.getD 16 undef = .slice (some ⟨b1, o1, none⟩) n c1 := f16
          have f17 : a.tmps.getD 17 undef = .int .i64 ((k : Int)) := f17
          refine rely_wp rfl ?_
          exact opr_idxS hlt rfl f16 f17 (hK _ _ (NewT.refl _) rfl)
        · intro a wx hT hF K hK
          obtain ⟨f18, _⟩ := hF
          have f18 : a.tmps.getD 18 undef = .pointer (some ⟨b1, o1 + 2 * k, none⟩) := f18
          refine rely_wp rfl ?_
          exact opr_ld2 ((hT.out.cell (World.block_lt_of_cell? _ _ k0)).trans k0) ((hT.out.cell (World.block_lt_of_cell? _ _ k1)).trans k1) rfl f18 (hK _ _ (NewT.refl _) rfl)
        · intro a wx hT hF K hK
          obtain ⟨f1, _⟩ := hF
          have f1 : a.tmps.getD 1 undef = .slice (some ⟨b2, o2, none⟩) n c2 := f1
          refine rely_wp rfl ?_
          exact opr_move (.inl rfl) (hK _ _ (NewT.refl _) f1)
        · intro a wx hT hF K hK
          obtain ⟨f5, _⟩ := hF
          have f5 : a.tmps.getD 5 undef = .int .i64 ((k : Int)) := f5
          refine rely_wp rfl ?_
          exact opr_move (.inl rfl) (hK _ _ (NewT.refl _) f5)
        · intro a wx hT hF K hK
          obtain ⟨f20, f21, _⟩ := hF
          have f20 : a.tmps.getD 20 undef = .slice (some ⟨b2, o2, none⟩) n c2 := f20
          have f21 : a.tmps.getD 21 undef = .int .i64 ((k : Int)) := f21
          refine rely_wp rfl ?_
          exact opr_idxS hlt rfl f20 f21 (hK _ _ (NewT.refl _) rfl)
        · intro a wx hT hF K hK
          obtain ⟨f22, _⟩ := hF
          have f22 : a.tmps.getD 22 undef = .pointer (some ⟨b2, o2 + 2 * k, none⟩) := f22
          refine rely_wp rfl ?_
          exact opr_ld2 ((hT.out.cell (World.block_lt_of_cell? _ _ e0)).trans e0) ((hT.out.cell (World.block_lt_of_cell? _ _ e1)).trans e1) rfl f22 (hK _ _ (NewT.refl _) rfl)
        · intro wy hT2
          intro u h; obtain rfl := Eq.symm (h (by simp)); clear h
          intro u h; obtain rfl := Eq.symm (h (by simp)); clear h
          intro u h; obtain rfl := Eq.symm (h (by simp)); clear h
          intro u h; obtain rfl := Eq.symm (h (by simp)); clear h
          intro u h; obtain rfl := Eq.symm (h (by simp)); clear h
          intro u h; obtain rfl := Eq.symm (h (by simp)); clear h
          intro u h; obtain rfl := Eq.symm (h (by simp)); clear h
          intro u h; obtain rfl := Eq.symm (h (by simp)); clear h
          refine relyEnd_nil rfl ?_
          simp only [Act.put, List.setIfInBounds_toArray, List.set_cons_zero, List.set_cons_succ]
          refine opr_neqS (b := false) (by simp [hq]) rfl rfl rfl ?_
          go_simp
          go_wp2
          go_roundw
          case rel => exact ⟨k + 1, by omega, by go_num, Lib.hid (Hnx.out hq), qB.trans (hT2.out.mono qB.size)⟩
          case measure => simp [intOf]; omega
      · go_upto_region 6 with fail
        generalize wr = W6 at *
        refine wp_region_rely NewT [SV.eq (.slice (some ⟨b1, o1, none⟩) n c1), SV.eq (.int .i64 ((k : Int))), SV.eq (.pointer (some ⟨b1, o1 + 2 * k, none⟩)), SV.eq (.agg (rowA 2 (stepF s))), SV.eq (.slice (some ⟨b2, o2, none⟩) n c2), SV.eq (.int .i64 ((k : Int))), SV.eq (.pointer (some ⟨b2, o2 + 2 * k, none⟩)), SV.eq (.agg (rowA 2 (stepF t)))] [([(0, none)], none), ([(5, none)], none), ([(16, some 0), (17, some 1)], none), ([(18, some 2)], none), ([(1, none)], none), ([(5, none)], none), ([(20, some 4), (21, some 5)], none), ([(22, some 6)], none)] 26 rfl (by kernel_rfl) rfl (by kernel_rfl) (by kernel_rfl) rfl NewT.trans (NewT.drew _) (Nat.le_of_ble_eq_true rfl) ⟨?_, ?_, ?_, ?_, ?_, ?_, ?_, ?_, trivial⟩ ?_
        · intro a wx hT hF K hK
          obtain ⟨f0, _⟩ := hF
          have f0 : a.tmps.getD 0 undef = .slice (some ⟨b1, o1, none⟩) n c1 := f0
          refine rely_wp rfl ?_
          exact opr_move (.inl rfl) (hK _ _ (NewT.refl _) f0)
        · intro a wx hT hF K hK
          obtain ⟨f5, _⟩ := hF
          have f5 : a.tmps.getD 5 undef = .int .i64 ((k : Int)) := f5
          refine rely_wp rfl ?_
          exact opr_move (.inl rfl) (hK _ _ (NewT.refl _) f5)
        · intro a wx hT hF K hK
          obtain ⟨f16, f17, _⟩ := hF
          have f16 : a.tmps.getD 16 undef = .slice (some ⟨b1, o1, none⟩) n c1 := f16
          have f17 : a.tmps.getD 17 undef = .int .i64 ((k : Int)) := f17
          refine rely_wp rfl ?_
          exact opr_idxS hlt rfl f16 f17 (hK _ _ (NewT.refl _) rfl)
        · intro a wx hT hF K hK
          obtain ⟨f18, _⟩ := hF
          have f18 : a.tmps.getD 18 undef = .pointer (some ⟨b1, o1 + 2 * k, none⟩) := f18
          refine rely_wp rfl ?_
          exact opr_ld2 ((hT.out.cell (World.block_lt_of_cell? _ _ k0)).trans k0) ((hT.out.cell (World.block_lt_of_cell? _ _ k1)).trans k1) rfl f18 (hK _ _ (NewT.refl _) rfl)
        · intro a wx hT hF K hK
          obtain ⟨f1, _⟩ := hF
          have f1 : a.tmps.getD 1 undef = .slice (some ⟨b2, o2, none⟩) n c2 := f1
          refine rely_wp rfl ?_
          exact opr_move (.inl rfl) (hK _ _ (NewT.refl _) f1)
        · intro a wx hT hF K hK
          obtain ⟨f5, _⟩ := hF
          have f5 : a.tmps.getD 5 undef = .int .i64 ((k : Int)) := f5
          refine rely_wp rfl ?_
          exact opr_move (.inl rfl) (hK _ _ (NewT.refl _) f5)
        · intro a wx hT hF K hK
          obtain ⟨f20, f21, _⟩ := hF
          have f20 : a.tmps.getD 20 undef = .slice (some ⟨b2, o2, none⟩) n c2 := f20
          have f21 : a.tmps.getD 21 undef = .int .i64 ((k : Int)) := f21
          refine rely_wp rfl ?_
          exact opr_idxS hlt rfl f20 f21 (hK _ _ (NewT.refl _) rfl)
        · intro a wx hT hF K hK
          obtain ⟨f22, _⟩ := hF
          have f22 : a.tmps.getD 22 undef = .pointer (some ⟨b2, o2 + 2 * k, none⟩) := f22
          refine rely_wp rfl ?_
          exact opr_ld2 ((hT.out.cell (World.block_lt_of_cell? _ _ e0)).trans e0) ((hT.out.cell (World.block_lt_of_cell? _ _ e1)).trans e1) rfl f22 (hK _ _ (NewT.refl _) rfl)
        · intro wy hT2
          intro u h; obtain rfl := Eq.symm (h (by simp)); clear h
          intro u h; obtain rfl := Eq.symm (h (by simp)); clear h
          intro u h; obtain rfl := Eq.symm (h (by simp)); clear h
          intro u h; obtain rfl := Eq.symm (h (by simp)); clear h
          intro u h; obtain rfl := Eq.symm (h (by simp)); clear h
          intro u h; obtain rfl := Eq.symm (h (by simp)); clear h
          intro u h; obtain rfl := Eq.symm (h (by simp)); clear h
          intro u h; obtain rfl := Eq.symm (h (by simp)); clear h
          refine relyEnd_nil rfl ?_
          simp only [Act.put, List.setIfInBounds_toArray, List.set_cons_zero, List.set_cons_succ]
          refine opr_neqS (b := true) (by simp [hq]) rfl rfl rfl ?_
          go_simp
          go_wp2
          go_ret
          exact ⟨_, rfl, qB.trans (hT2.out.mono qB.size), by rw [decide_eq_false (Hno.out hq)]; rfl⟩
    · obtain rfl : k = n := by omega
      go_wp2
      go_ret
      exact ⟨_, rfl, qB, by rw [decide_eq_true (pairs_ext Hn.out Hm.out.symm Hs.out)]; rfl⟩
set_option maxHeartbeats 1000000 in
theorem RSteps_cv (v1 v2 : Value) (l m : List (Int × Int)) (w : World) (h1 : RdP w v1 l) (h2 : RdP w v2 m) : Cv 33 #[v1, v2] w (.eq (.bool (decide (l = m)))) := by
  unfold Cv
  obtain ⟨A1, c1, rfl, p1, p2, p3⟩ := h1
  obtain ⟨A2, c2, rfl, q1, q2, q3⟩ := h2
  unfold maxLen at p2 q2
  by_cases hne : l.length = m.length
  rotate_left
  · have hd : decide (l = m) = false := decide_eq_false fun h => hne (by rw [h])
    have ht : ((l.length : Int) != (m.length : Int)) = true := by simp; omega
    rw [hd]
    clear p3 q3 hd
    generalize l.length = n1 at *
    generalize m.length = n2 at *
    go_enter Tryd.func33, Tryd.ntmps33
    go_wp2
    go_ret
    exact ⟨_, rfl, NewT.refl _, rfl⟩
  have P3 := Lib.hid p3
  have Q3 := Lib.hid q3
  clear p3 q3
  generalize hn : l.length = n at *
  rw [← hne] at q1 Q3 ⊢
  have Hn := Lib.hid hn
  have Hm := Lib.hid hne
  clear hn hne
  go_enter Tryd.func33, Tryd.ntmps33
  go_wp2
  go_loopw [5] (fun i wr => ∃ k : Nat, k ≤ n ∧ i = .int .i64 k ∧ Hid (∀ i, i < k → l.getD i (0, 0) = m.getD i (0, 0)) ∧ Below w.heap.size w wr) (fun i _ => n - (intOf i).toNat)
  case atStart => exact ⟨0, by omega, rfl, Lib.hid (fun i hi => by omega), Below.refl _ _⟩
  case round =>
    obtain ⟨k, hk, rfl, Hs, qB⟩ := hrel
    by_cases hlt : k < n
    · obtain ⟨b1, o1, rfl, hc1⟩ := P3.out (by omega)
      obtain ⟨b2, o2, rfl, hc2⟩ := Q3.out (by omega)
      obtain ⟨j0, j1⟩ := hc1 k hlt
      obtain ⟨i0, i1⟩ := hc2 k hlt
      have k0 := (qB.cell (p := ⟨b1, o1 + 2 * k, none⟩) (World.block_lt_of_cell? _ _ j0)).trans j0
      have k1 := (qB.cell (p := ⟨b1, o1 + 2 * k + 1, none⟩) (World.block_lt_of_cell? _ _ j1)).trans j1
      have e0 := (qB.cell (p := ⟨b2, o2 + 2 * k, none⟩) (World.block_lt_of_cell? _ _ i0)).trans i0
      have e1 := (qB.cell (p := ⟨b2, o2 + 2 * k + 1, none⟩) (World.block_lt_of_cell? _ _ i1)).trans i1
      have Hno : Hid (l.getD k (0, 0) ≠ m.getD k (0, 0) → l ≠ m) := Lib.hid (fun h e => h (by rw [e]))
      have Hnx : Hid (l.getD k (0, 0) = m.getD k (0, 0) → ∀ i, i < k + 1 → l.getD i (0, 0) = m.getD i (0, 0)) := Lib.hid (fun h i hi => by
        rcases Nat.lt_succ_iff_lt_or_eq.1 hi with h1 | rfl
        · exact Hs.out i h1
        · exact h)
      clear hc1 hc2 j0 j1 i0 i1
      generalize l.getD k (0, 0) = s at k0 k1 Hno Hnx
      generalize m.getD k (0, 0) = t at e0 e1 Hno Hnx
      have it : (k : Int) < (n : Int) := by omega
      by_cases hq : s = t
      · go_upto_region 6 with fail
        generalize wr = W6 at *
        refine wp_region_rely NewT [SV.eq (.slice (some ⟨b1, o1, none⟩) n c1), SV.eq (.int .i64 ((k : Int))), SV.eq (.pointer (some ⟨b1, o1 + 2 * k, none⟩)), SV.eq (.agg (rowA 2 (stepF s))), SV.eq (.slice (some ⟨b2, o2, none⟩) n c2), SV.eq (.int .i64 ((k : Int))), SV.eq (.pointer (some ⟨b2, o2 + 2 * k, none⟩)), SV.eq (.agg (rowA 2 (stepF t)))] [([(0, none)], none), ([(5, none)], none), ([(17, some 0), (18, some 1)], none), ([(19, some 2)], none), ([(1, none)], none), ([(5, none)], none), ([(21, some 4), (22, some 5)], none), ([(23, some 6)], none)] 26 rfl (by kernel_rfl) rfl (by kernel_rfl) (by kernel_rfl) rfl NewT.trans (NewT.drew _) (Nat.le_of_ble_eq_true rfl) ⟨?_, ?_, ?_, ?_, ?_, ?_, ?_, ?_, trivial⟩ ?_
        · intro a wx hT hF K hK
          obtain ⟨f0, _⟩ := hF
          have f0 : a.tmps.getD 0 undef = .slice (some ⟨b1, o1, none⟩) n c1 := f0
          refine rely_wp rfl ?_
          exact opr_move (.inl rfl) (hK _ _ (NewT.refl _) f0)
        · intro a wx hT hF K hK
          obtain ⟨f5, _⟩ := hF
          have f5 : a.tmps.getD 5 undef = .int .i64 ((k : Int)) := f5
          refine rely_wp rfl ?_
          exact opr_move (.inl rfl) (hK _ _ (NewT.refl _) f5)
        · intro a wx hT hF K hK
          obtain ⟨f17, f18, _⟩ := hF
          have f17 : a.tmps.getD 17 undef = .slice (some ⟨b1, o1, none⟩) n c1 := f17
          have f18 : a.tmps.getD 18 undef = .int .i64 ((k : Int)) := f18
          refine rely_wp rfl ?_
          exact opr_idxS hlt rfl f17 f18 (hK _ _ (NewT.refl _) rfl)
        · intro a wx hT hF K hK
          obtain ⟨f19, _⟩ := hF
          have f19 : a.tmps.getD 19 undef = .pointer (some ⟨b1, o1 + 2 * k, none⟩) := f19
          refine rely_wp rfl ?_
          exact opr_ld2 ((hT.out.cell (World.block_lt_of_cell? _ _ k0)).trans k0) ((hT.out.cell (World.block_lt_of_cell? _ _ k1)).trans k1) rfl f19 (hK _ _ (NewT.refl _) rfl)
        · intro a wx hT hF K hK
          obtain ⟨f1, _⟩ := hF
          have f1 : a.tmps.getD 1 undef = .slice (some ⟨b2, o2, none⟩) n c2 := f1
          refine rely_wp rfl ?_
          exact opr_move (.inl rfl) (hK _ _ (NewT.refl _) f1)
        · intro a wx hT hF K hK
          obtain ⟨f5, _⟩ := hF
          have f5 : a.tmps.getD 5 undef = .int .i64 ((k : Int)) := f5
          refine rely_wp rfl ?_
          exact opr_move (.inl rfl) (hK _ _ (NewT.refl _) f5)
        · intro a wx hT hF K hK
          obtain ⟨f21, f22, _⟩ := hF
          have f21 : a.tmps.getD 21 undef = .slice (some ⟨b2, o2, none⟩) n c2 := f21
          have f22 : a.tmps.getD 22 undef = .int .i64 ((k : Int)) := f22
          refine rely_wp rfl ?_
          exact opr_idxS hlt rfl f21 f22 (hK _ _ (NewT.refl _) rfl)
        · intro a wx hT hF K hK
          obtain ⟨f23, _⟩ := hF
          have f23 : a.tmps.getD 23 undef = .pointer (some ⟨b2, o2 + 2 * k, none⟩) := f23
          refine rely_wp rfl ?_
          exact opr_ld2 ((hT.out.cell (World.block_lt_of_cell? _ _ e0)).trans e0) ((hT.out.cell (World.block_lt_of_cell? _ _ e1)).trans e1) rfl f23 (hK _ _ (NewT.refl _) rfl)
        · intro wy hT2
          intro u h; obtain rfl := Eq.symm (h (by simp)); clear h
          intro u h; obtain rfl := Eq.symm (h (by simp)); clear h
          intro u h; obtain rfl := Eq.symm (h (by simp)); clear h
          intro u h; obtain rfl := Eq.symm (h (by simp)); clear h
          intro u h; obtain rfl := Eq.symm (h (by simp)); clear h
          intro u h; obtain rfl := Eq.symm (h (by simp)); clear h
          intro u h; obtain rfl := Eq.symm (h (by simp)); clear h
          intro u h; obtain rfl := Eq.symm (h (by simp)); clear h
          refine relyEnd_nil rfl ?_
          simp only [Act.put, List.setIfInBounds_toArray, List.set_cons_zero, List.set_cons_succ]
          refine opr_neqS (b := false) (by simp [hq]) rfl rfl rfl ?_
          go_simp
          go_wp2
          go_roundw
          case rel => exact ⟨k + 1, by omega, by go_num, Lib.hid (Hnx.out hq), qB.trans (hT2.out.mono qB.size)⟩
          case measure => simp [intOf]; omega
      · go_upto_region 6 with fail
        generalize wr = W6 at *
        refine wp_region_rely NewT [SV.eq (.slice (some ⟨b1, o1, none⟩) n c1), SV.eq (.int .i64 ((k : Int))), SV.eq (.pointer (some ⟨b1, o1 + 2 * k, none⟩)), SV.eq (.agg (rowA 2 (stepF s))), SV.eq (.slice (some ⟨b2, o2, none⟩) n c2), SV.eq (.int .i64 ((k : Int))), SV.eq (.pointer (some ⟨b2, o2 + 2 * k, none⟩)), SV.eq (.agg (rowA 2 (stepF t)))] [([(0, none)], none), ([(5, none)], none), ([(17, some 0), (18, some 1)], none), ([(19, some 2)], none), ([(1, none)], none), ([(5, none)], none), ([(21, some 4), (22, some 5)], none), ([(23, some 6)], none)] 26 rfl (by kernel_rfl) rfl (by kernel_rfl) (by kernel_rfl) rfl NewT.trans (NewT.drew _) (Nat.le_of_ble_eq_true rfl) ⟨?_, ?_, ?_, ?_, ?_, ?_, ?_, ?_, trivial⟩ ?_
        · intro a wx hT hF K hK
          obtain ⟨f0, _⟩ := hF
          have f0 : a.tmps.getD 0 undef = .slice (some ⟨b1, o1, none⟩) n c1 := f0
          refine rely_wp rfl ?_
          exact opr_move (.inl rfl) (hK _ _ (NewT.refl _) f0)
        · intro a wx hT hF K hK
          obtain ⟨f5, _⟩ := hF
          have f5 : a.tmps.getD 5 undef = .int .i64 ((k : Int)) := f5
          refine rely_wp rfl ?_
          exact opr_move (.inl rfl) (hK _ _ (NewT.refl _) f5)
        · intro a wx hT hF K hK
          obtain ⟨f17, f18, _⟩ := hF
          have f17 : a.tmps.getD 17 undef = .slice (some ⟨b1, o1, none⟩) n c1 := f17
          have f18 : a.tmps.getD 18 undef = .int .i64 ((k : Int)) := f18
          refine rely_wp rfl ?_
          exact opr_idxS hlt rfl f17 f18 (hK _ _ (NewT.refl _) rfl)
        · intro a wx hT hF K hK
          obtain ⟨f19, _⟩ := hF
          have f19 : a.tmps.getD 19 undef = .pointer (some ⟨b1, o1 + 2 * k, none⟩) := f19
          refine rely_wp rfl ?_
          exact opr_ld2 ((hT.out.cell (World.block_lt_of_cell? _ _ k0)).trans k0) ((hT.out.cell (World.block_lt_of_cell? _ _ k1)).trans k1) rfl f19 (hK _ _ (NewT.refl _) rfl)
        · intro a wx hT hF K hK
          obtain ⟨f1, _⟩ := hF
          have f1 : a.tmps.getD 1 undef = .slice (some ⟨b2, o2, none⟩) n c2 := f1
          refine rely_wp rfl ?_
          exact opr_move (.inl rfl) (hK _ _ (NewT.refl _) f1)
        · intro a wx hT hF K hK
          obtain ⟨f5, _⟩ := hF
          have f5 : a.tmps.getD 5 undef = .int .i64 ((k : Int)) := f5
          refine rely_wp rfl ?_
          exact opr_move (.inl rfl) (hK _ _ (NewT.refl _) f5)
        · intro a wx hT hF K hK
          obtain ⟨f21, f22, _⟩ := hF
          have f21 : a.tmps.getD 21 undef = .slice (some ⟨b2, o2, none⟩) n c2 := f21
          have f22 : a.tmps.getD 22 undef = .int .i64 ((k : Int)) := f22
          refine rely_wp rfl ?_
          exact opr_idxS hlt rfl f21 f22 (hK _ _ (NewT.refl _) rfl)
        · intro a wx hT hF K hK
          obtain ⟨f23, _⟩ := hF
          have f23 : a.tmps.getD 23 undef = .pointer (some ⟨b2, o2 + 2 * k, none⟩) := f23
          refine rely_wp rfl ?_
          exact opr_ld2 ((hT.out.cell (World.block_lt_of_cell? _ _ e0)).trans e0) ((hT.out.cell (World.block_lt_of_cell? _ _ e1)).trans e1) rfl f23 (hK _ _ (NewT.refl _) rfl)
        · intro wy hT2
          intro u h; obtain rfl := Eq.symm (h (by simp)); clear h
          intro u h; obtain rfl := Eq.symm (h (by simp)); clear h
          intro u h; obtain rfl := Eq.symm (h (by simp)); clear h
          intro u h; obtain rfl := Eq.symm (h (by simp)); clear h
          intro u h; obtain rfl := Eq.symm (h (by simp)); clear h
          intro u h; obtain rfl := Eq.symm (h (by simp)); clear h
          intro u h; obtain rfl := Eq.symm (h (by simp)); clear h
          intro u h; obtain rfl := Eq.symm (h (by simp)); clear h
          refine relyEnd_nil rfl ?_
          simp only [Act.put, List.setIfInBounds_toArray, List.set_cons_zero, List.set_cons_succ]
          refine opr_neqS (b := true) (by simp [hq]) rfl rfl rfl ?_
          go_simp
          go_wp2
          go_ret
          exact ⟨_, rfl, qB.trans (hT2.out.mono qB.size), by rw [decide_eq_false (Hno.out hq)]; rfl⟩
    · obtain rfl : k = n := by omega
      go_wp2
      go_ret
      exact ⟨_, rfl, qB, by rw [decide_eq_true (pairs_ext Hn.out Hm.out.symm Hs.out)]; rfl⟩
end Go.Proofs.YthgblcpekhiphaaDoor
/- Package rec: Same; the reference's Same. -/
namespace Go.Proofs.YthgblcpekhiphaaDoor
open Go Go.RowKit
set_option maxRecDepth 8000
set_option maxHeartbeats 2000000 in
theorem Same_cv (v1 v2 : Value) (x y : Rc) (w : World) (h1 : RecV w v1 x) (h2 : RecV w v2 y) : Cv 18 #[v1, v2] w (.eq (.bool (sameB x y))) := by
  obtain ⟨sv, dv, rfl, hs, hd⟩ := h1
  obtain ⟨su, du, rfl, hu, he⟩ := h2
  unfold Cv
  go_enter Tryd.func18, Tryd.ntmps18
  go_upto_region 1 with fail
  have r1 := (rowIs_box w 27 109 (recF x sv dv)).alloc (.cells (rowA 109 (recF y su du)) 27)
  have r2 := rowIs_box (w.alloc (.cells (rowA 109 (recF x sv dv)) 27)) 27 109 (recF y su du)
  have hN : NewT w ((w.alloc (.cells (rowA 109 (recF x sv dv)) 27)).alloc (.cells (rowA 109 (recF y su du)) 27)) := NewT.trans _ _ _ (NewT.alloc _ _) (NewT.alloc _ _)
  rw [World.size_alloc] at r2
  change Code.wp _ _ _ _ ((w.alloc (.cells (rowA 109 (recF x sv dv)) 27)).alloc (.cells (rowA 109 (recF y su du)) 27))
  generalize (w.alloc (.cells (rowA 109 (recF x sv dv)) 27)).alloc (.cells (rowA 109 (recF y su du)) 27) = W0 at r1 r2 hN ⊢
  have HS := Lib.hid (hN.pairs hs)
  have HD := Lib.hid (hN.rd hd)
  have HU := Lib.hid (hN.pairs hu)
  have HE := Lib.hid (hN.rd he)
  have R1 := Lib.hid r1
  have R2 := Lib.hid r2
  have HN := Lib.hid hN
  clear hs hd hu he r1 r2 hN
  obtain ⟨q1_1, Q1_1⟩ : ∃ q, ((x.kind == y.kind) && (x.saga == y.saga)) = q := ⟨_, rfl⟩
  obtain ⟨q2_1, Q2_1⟩ : ∃ q, ((q1_1 && (x.seq == y.seq)) && (x.step == y.step)) = q := ⟨_, rfl⟩
  obtain ⟨q3_1, Q3_1⟩ : ∃ q, ((q2_1 && (x.tr == y.tr)) && (x.back == y.back)) = q := ⟨_, rfl⟩
  obtain ⟨q4_1, Q4_1⟩ : ∃ q, ((q3_1 && (x.good == y.good)) && (x.nd == y.nd)) = q := ⟨_, rfl⟩
  obtain ⟨q5_1, Q5_1⟩ : ∃ q, ((q4_1 && (x.part == y.part)) && (x.epoch == y.epoch)) = q := ⟨_, rfl⟩
  obtain ⟨q6_1, Q6_1⟩ : ∃ q, ((q5_1 && (eqH (x.tag) (y.tag))) && (decide (x.steps = y.steps))) = q := ⟨_, rfl⟩
  obtain ⟨q7_1, Q7_1⟩ : ∃ q, (q6_1 && (decide (x.data = y.data))) = q := ⟨_, rfl⟩
  obtain ⟨q8_1, Q8_1⟩ : ∃ q, (q7_1 && (eqH (x.salt) (y.salt))) = q := ⟨_, rfl⟩
  obtain ⟨q9_1, Q9_1⟩ : ∃ q, ((q8_1 && (x.gone == y.gone)) && (eqH (x.com) (y.com))) = q := ⟨_, rfl⟩
  refine wp_region_steps0 NewT [SV.eq (.pointer (some ⟨w.heap.size, 0, none⟩)), SV.eq (.int .i64 (x.kind)), SV.eq (.pointer (some ⟨w.heap.size + 1, 0, none⟩)), SV.eq (.int .i64 (y.kind)), SV.eq (.bool (x.kind == y.kind)), SV.eq (.bool (x.kind == y.kind)), svIf (x.kind == y.kind) (SV.eq (.pointer (some ⟨w.heap.size, 1, none⟩))), svIf (x.kind == y.kind) (SV.eq (.int .i64 (x.saga))), svIf (x.kind == y.kind) (SV.eq (.pointer (some ⟨w.heap.size + 1, 1, none⟩))), svIf (x.kind == y.kind) (SV.eq (.int .i64 (y.saga))), svIf (x.kind == y.kind) (SV.eq (.bool (x.saga == y.saga))), SV.eq (.bool (q1_1)), SV.eq (.bool (q1_1)), svIf q1_1 (SV.eq (.pointer (some ⟨w.heap.size, 2, none⟩))), svIf q1_1 (SV.eq (.int .i64 (x.seq))), svIf q1_1 (SV.eq (.pointer (some ⟨w.heap.size + 1, 2, none⟩))), svIf q1_1 (SV.eq (.int .i64 (y.seq))), svIf q1_1 (SV.eq (.bool (x.seq == y.seq))), SV.eq (.bool (q1_1 && (x.seq == y.seq))), SV.eq (.bool (q1_1 && (x.seq == y.seq))), svIf (q1_1 && (x.seq == y.seq)) (SV.eq (.pointer (some ⟨w.heap.size, 3, none⟩))), svIf (q1_1 && (x.seq == y.seq)) (SV.eq (.int .i64 (x.step))), svIf (q1_1 && (x.seq == y.seq)) (SV.eq (.pointer (some ⟨w.heap.size + 1, 3, none⟩))), svIf (q1_1 && (x.seq == y.seq)) (SV.eq (.int .i64 (y.step))), svIf (q1_1 && (x.seq == y.seq)) (SV.eq (.bool (x.step == y.step))), SV.eq (.bool (q2_1)), SV.eq (.bool (q2_1)), svIf q2_1 (SV.eq (.pointer (some ⟨w.heap.size, 4, none⟩))), svIf q2_1 (SV.eq (.int .i64 (x.tr))), svIf q2_1 (SV.eq (.pointer (some ⟨w.heap.size + 1, 4, none⟩))), svIf q2_1 (SV.eq (.int .i64 (y.tr))), svIf q2_1 (SV.eq (.bool (x.tr == y.tr))), SV.eq (.bool (q2_1 && (x.tr == y.tr))), SV.eq (.bool (q2_1 && (x.tr == y.tr))), svIf (q2_1 && (x.tr == y.tr)) (SV.eq (.pointer (some ⟨w.heap.size, 5, none⟩))), svIf (q2_1 && (x.tr == y.tr)) (SV.eq (.bool (x.back))), svIf (q2_1 && (x.tr == y.tr)) (SV.eq (.pointer (some ⟨w.heap.size + 1, 5, none⟩))), svIf (q2_1 && (x.tr == y.tr)) (SV.eq (.bool (y.back))), svIf (q2_1 && (x.tr == y.tr)) (SV.eq (.bool (x.back == y.back))), SV.eq (.bool (q3_1)), SV.eq (.bool (q3_1)), svIf q3_1 (SV.eq (.pointer (some ⟨w.heap.size, 6, none⟩))), svIf q3_1 (SV.eq (.bool (x.good))), svIf q3_1 (SV.eq (.pointer (some ⟨w.heap.size + 1, 6, none⟩))), svIf q3_1 (SV.eq (.bool (y.good))), svIf q3_1 (SV.eq (.bool (x.good == y.good))), SV.eq (.bool (q3_1 && (x.good == y.good))), SV.eq (.bool (q3_1 && (x.good == y.good))), svIf (q3_1 && (x.good == y.good)) (SV.eq (.pointer (some ⟨w.heap.size, 7, none⟩))), svIf (q3_1 && (x.good == y.good)) (SV.eq (.int .i64 (x.nd))), svIf (q3_1 && (x.good == y.good)) (SV.eq (.pointer (some ⟨w.heap.size + 1, 7, none⟩))), svIf (q3_1 && (x.good == y.good)) (SV.eq (.int .i64 (y.nd))), svIf (q3_1 && (x.good == y.good)) (SV.eq (.bool (x.nd == y.nd))), SV.eq (.bool (q4_1)), SV.eq (.bool (q4_1)), svIf q4_1 (SV.eq (.pointer (some ⟨w.heap.size, 8, none⟩))), svIf q4_1 (SV.eq (.int .i64 (x.part))), svIf q4_1 (SV.eq (.pointer (some ⟨w.heap.size + 1, 8, none⟩))), svIf q4_1 (SV.eq (.int .i64 (y.part))), svIf q4_1 (SV.eq (.bool (x.part == y.part))), SV.eq (.bool (q4_1 && (x.part == y.part))), SV.eq (.bool (q4_1 && (x.part == y.part))), svIf (q4_1 && (x.part == y.part)) (SV.eq (.pointer (some ⟨w.heap.size, 9, none⟩))), svIf (q4_1 && (x.part == y.part)) (SV.eq (.int .i64 (x.epoch))), svIf (q4_1 && (x.part == y.part)) (SV.eq (.pointer (some ⟨w.heap.size + 1, 9, none⟩))), svIf (q4_1 && (x.part == y.part)) (SV.eq (.int .i64 (y.epoch))), svIf (q4_1 && (x.part == y.part)) (SV.eq (.bool (x.epoch == y.epoch))), SV.eq (.bool (q5_1)), SV.eq (.bool (q5_1)), svIf q5_1 (SV.eq (.pointer (some ⟨w.heap.size, 10, none⟩))), svIf q5_1 (SV.eq (.agg (rowA 32 (bF (x.tag))))), svIf q5_1 (SV.eq (.pointer (some ⟨w.heap.size + 1, 10, none⟩))), svIf q5_1 (SV.eq (.agg (rowA 32 (bF (y.tag))))), svIf q5_1 (SV.eq (.bool (eqH (x.tag) (y.tag)))), SV.eq (.bool (q5_1 && (eqH (x.tag) (y.tag)))), SV.eq (.bool (q5_1 && (eqH (x.tag) (y.tag)))), svIf (q5_1 && (eqH (x.tag) (y.tag))) (SV.eq (.pointer (some ⟨w.heap.size, 42, none⟩))), svIf (q5_1 && (eqH (x.tag) (y.tag))) (SV.eq (sv)), svIf (q5_1 && (eqH (x.tag) (y.tag))) (SV.eq (.pointer (some ⟨w.heap.size + 1, 42, none⟩))), svIf (q5_1 && (eqH (x.tag) (y.tag))) (SV.eq (su)), svIf (q5_1 && (eqH (x.tag) (y.tag))) (SV.eq (.bool (decide (x.steps = y.steps)))), SV.eq (.bool (q6_1)), SV.eq (.bool (q6_1)), svIf q6_1 (SV.eq (.pointer (some ⟨w.heap.size, 43, none⟩))), svIf q6_1 (SV.eq (dv)), svIf q6_1 (SV.eq (.pointer (some ⟨w.heap.size + 1, 43, none⟩))), svIf q6_1 (SV.eq (du)), svIf q6_1 (SV.eq (.bool (decide (x.data = y.data)))), SV.eq (.bool (q7_1)), SV.eq (.bool (q7_1)), svIf q7_1 (SV.eq (.pointer (some ⟨w.heap.size, 44, none⟩))), svIf q7_1 (SV.eq (.agg (rowA 32 (bF (x.salt))))), svIf q7_1 (SV.eq (.pointer (some ⟨w.heap.size + 1, 44, none⟩))), svIf q7_1 (SV.eq (.agg (rowA 32 (bF (y.salt))))), svIf q7_1 (SV.eq (.bool (eqH (x.salt) (y.salt)))), SV.eq (.bool (q8_1)), SV.eq (.bool (q8_1)), svIf q8_1 (SV.eq (.pointer (some ⟨w.heap.size, 76, none⟩))), svIf q8_1 (SV.eq (.bool (x.gone))), svIf q8_1 (SV.eq (.pointer (some ⟨w.heap.size + 1, 76, none⟩))), svIf q8_1 (SV.eq (.bool (y.gone))), svIf q8_1 (SV.eq (.bool (x.gone == y.gone))), SV.eq (.bool (q8_1 && (x.gone == y.gone))), SV.eq (.bool (q8_1 && (x.gone == y.gone))), svIf (q8_1 && (x.gone == y.gone)) (SV.eq (.pointer (some ⟨w.heap.size, 77, none⟩))), svIf (q8_1 && (x.gone == y.gone)) (SV.eq (.agg (rowA 32 (bF (x.com))))), svIf (q8_1 && (x.gone == y.gone)) (SV.eq (.pointer (some ⟨w.heap.size + 1, 77, none⟩))), svIf (q8_1 && (x.gone == y.gone)) (SV.eq (.agg (rowA 32 (bF (y.com))))), svIf (q8_1 && (x.gone == y.gone)) (SV.eq (.bool (eqH (x.com) (y.com)))), SV.eq (.bool (q9_1))] [([(2, none)], none), ([(5, some 0)], none), ([(3, none)], none), ([(7, some 2)], none), ([(6, some 1), (8, some 3)], none), ([(9, some 4)], none), ([(2, none), (10, some 5)], some (10, true)), ([(11, some 6), (10, some 5)], some (10, true)), ([(3, none), (10, some 5)], some (10, true)), ([(13, some 8), (10, some 5)], some (10, true)), ([(12, some 7), (14, some 9), (10, some 5)], some (10, true)), ([(10, some 5), (15, some 10)], none), ([(16, some 11)], none), ([(2, none), (17, some 12)], some (17, true)), ([(18, some 13), (17, some 12)], some (17, true)), ([(3, none), (17, some 12)], some (17, true)), ([(20, some 15), (17, some 12)], some (17, true)), ([(19, some 14), (21, some 16), (17, some 12)], some (17, true)), ([(17, some 12), (22, some 17)], none), ([(23, some 18)], none), ([(2, none), (24, some 19)], some (24, true)), ([(25, some 20), (24, some 19)], some (24, true)), ([(3, none), (24, some 19)], some (24, true)), ([(27, some 22), (24, some 19)], some (24, true)), ([(26, some 21), (28, some 23), (24, some 19)], some (24, true)), ([(24, some 19), (29, some 24)], none), ([(30, some 25)], none), ([(2, none), (31, some 26)], some (31, true)), ([(32, some 27), (31, some 26)], some (31, true)), ([(3, none), (31, some 26)], some (31, true)), ([(34, some 29), (31, some 26)], some (31, true)), ([(33, some 28), (35, some 30), (31, some 26)], some (31, true)), ([(31, some 26), (36, some 31)], none), ([(37, some 32)], none), ([(2, none), (38, some 33)], some (38, true)), ([(39, some 34), (38, some 33)], some (38, true)), ([(3, none), (38, some 33)], some (38, true)), ([(41, some 36), (38, some 33)], some (38, true)), ([(40, some 35), (42, some 37), (38, some 33)], some (38, true)), ([(38, some 33), (43, some 38)], none), ([(44, some 39)], none), ([(2, none), (45, some 40)], some (45, true)), ([(46, some 41), (45, some 40)], some (45, true)), ([(3, none), (45, some 40)], some (45, true)), ([(48, some 43), (45, some 40)], some (45, true)), ([(47, some 42), (49, some 44), (45, some 40)], some (45, true)), ([(45, some 40), (50, some 45)], none), ([(51, some 46)], none), ([(2, none), (52, some 47)], some (52, true)), ([(53, some 48), (52, some 47)], some (52, true)), ([(3, none), (52, some 47)], some (52, true)), ([(55, some 50), (52, some 47)], some (52, true)), ([(54, some 49), (56, some 51), (52, some 47)], some (52, true)), ([(52, some 47), (57, some 52)], none), ([(58, some 53)], none), ([(2, none), (59, some 54)], some (59, true)), ([(60, some 55), (59, some 54)], some (59, true)), ([(3, none), (59, some 54)], some (59, true)), ([(62, some 57), (59, some 54)], some (59, true)), ([(61, some 56), (63, some 58), (59, some 54)], some (59, true)), ([(59, some 54), (64, some 59)], none), ([(65, some 60)], none), ([(2, none), (66, some 61)], some (66, true)), ([(67, some 62), (66, some 61)], some (66, true)), ([(3, none), (66, some 61)], some (66, true)), ([(69, some 64), (66, some 61)], some (66, true)), ([(68, some 63), (70, some 65), (66, some 61)], some (66, true)), ([(66, some 61), (71, some 66)], none), ([(72, some 67)], none), ([(2, none), (73, some 68)], some (73, true)), ([(74, some 69), (73, some 68)], some (73, true)), ([(3, none), (73, some 68)], some (73, true)), ([(76, some 71), (73, some 68)], some (73, true)), ([(75, some 70), (77, some 72), (73, some 68)], some (73, true)), ([(73, some 68), (78, some 73)], none), ([(79, some 74)], none), ([(2, none), (80, some 75)], some (80, true)), ([(81, some 76), (80, some 75)], some (80, true)), ([(3, none), (80, some 75)], some (80, true)), ([(83, some 78), (80, some 75)], some (80, true)), ([(82, some 77), (84, some 79), (80, some 75)], some (80, true)), ([(80, some 75), (85, some 80)], none), ([(86, some 81)], none), ([(2, none), (87, some 82)], some (87, true)), ([(88, some 83), (87, some 82)], some (87, true)), ([(3, none), (87, some 82)], some (87, true)), ([(90, some 85), (87, some 82)], some (87, true)), ([(89, some 84), (91, some 86), (87, some 82)], some (87, true)), ([(87, some 82), (92, some 87)], none), ([(93, some 88)], none), ([(2, none), (94, some 89)], some (94, true)), ([(95, some 90), (94, some 89)], some (94, true)), ([(3, none), (94, some 89)], some (94, true)), ([(97, some 92), (94, some 89)], some (94, true)), ([(96, some 91), (98, some 93), (94, some 89)], some (94, true)), ([(94, some 89), (99, some 94)], none), ([(100, some 95)], none), ([(2, none), (101, some 96)], some (101, true)), ([(102, some 97), (101, some 96)], some (101, true)), ([(3, none), (101, some 96)], some (101, true)), ([(104, some 99), (101, some 96)], some (101, true)), ([(103, some 98), (105, some 100), (101, some 96)], some (101, true)), ([(101, some 96), (106, some 101)], none), ([(107, some 102)], none), ([(2, none), (108, some 103)], some (108, true)), ([(109, some 104), (108, some 103)], some (108, true)), ([(3, none), (108, some 103)], some (108, true)), ([(111, some 106), (108, some 103)], some (108, true)), ([(110, some 105), (112, some 107), (108, some 103)], some (108, true)), ([(108, some 103), (113, some 108)], none)] 115 110 rfl rfl (by kernel_rfl) NewT.trans (NewT.refl _) (Nat.le_of_ble_eq_true rfl) ⟨?_, ?_, ?_, ?_, ?_, ?_, ?_, ?_, ?_, ?_, ?_, ?_, ?_, ?_, ?_, ?_, ?_, ?_, ?_, ?_, ?_, ?_, ?_, ?_, ?_, ?_, ?_, ?_, ?_, ?_, ?_, ?_, ?_, ?_, ?_, ?_, ?_, ?_, ?_, ?_, ?_, ?_, ?_, ?_, ?_, ?_, ?_, ?_, ?_, ?_, ?_, ?_, ?_, ?_, ?_, ?_, ?_, ?_, ?_, ?_, ?_, ?_, ?_, ?_, ?_, ?_, ?_, ?_, ?_, ?_, ?_, ?_, ?_, ?_, ?_, ?_, ?_, ?_, ?_, ?_, ?_, ?_, ?_, ?_, ?_, ?_, ?_, ?_, ?_, ?_, ?_, ?_, ?_, ?_, ?_, ?_, ?_, ?_, ?_, ?_, ?_, ?_, ?_, ?_, ?_, ?_, ?_, ?_, ?_, ?_, trivial⟩ ?_
  · intro a wx hT hF K hK
    obtain ⟨f2, _⟩ := hF
    have f2 : a.tmps.getD 2 undef = .pointer (some ⟨w.heap.size, 0, none⟩) := f2
    refine rely_wp rfl ?_
    exact opr_fldR (by decide) rfl f2 (hK _ _ (NewT.refl _) rfl)
  · intro a wx hT hF K hK
    obtain ⟨f5, _⟩ := hF
    have f5 : a.tmps.getD 5 undef = .pointer (some ⟨w.heap.size, 0, none⟩) := f5
    refine rely_wp rfl ?_
    exact opr_ldI (hT.row R1.out) (by decide) rfl rfl f5 (hK _ _ (NewT.refl _) rfl)
  · intro a wx hT hF K hK
    obtain ⟨f3, _⟩ := hF
    have f3 : a.tmps.getD 3 undef = .pointer (some ⟨w.heap.size + 1, 0, none⟩) := f3
    refine rely_wp rfl ?_
    exact opr_fldR (by decide) rfl f3 (hK _ _ (NewT.refl _) rfl)
  · intro a wx hT hF K hK
    obtain ⟨f7, _⟩ := hF
    have f7 : a.tmps.getD 7 undef = .pointer (some ⟨w.heap.size + 1, 0, none⟩) := f7
    refine rely_wp rfl ?_
    exact opr_ldI (hT.row R2.out) (by decide) rfl rfl f7 (hK _ _ (NewT.refl _) rfl)
  · intro a wx hT hF K hK
    obtain ⟨f6, f8, _⟩ := hF
    have f6 : a.tmps.getD 6 undef = .int .i64 (x.kind) := f6
    have f8 : a.tmps.getD 8 undef = .int .i64 (y.kind) := f8
    refine rely_wp rfl ?_
    exact opr_cmp (b := x.kind == y.kind) (.inl ⟨rfl, rfl⟩) Tryd.underlying3 rfl f6 f8 (hK _ _ (NewT.refl _) rfl)
  · intro a wx hT hF K hK
    obtain ⟨f9, _⟩ := hF
    have f9 : a.tmps.getD 9 undef = .bool (x.kind == y.kind) := f9
    refine rely_wp rfl ?_
    exact opr_move (.inl rfl) (hK _ _ (NewT.refl _) f9)
  · intro a wx hT hF K hK
    obtain ⟨f2, f10, _⟩ := hF
    have f2 : a.tmps.getD 2 undef = .pointer (some ⟨w.heap.size, 0, none⟩) := f2
    have f10 : a.tmps.getD 10 undef = .bool (x.kind == y.kind) := f10
    refine rely_if (rely_gt f10) (NewT.refl _) hK (fun hE hK => ?_)
    exact opr_fldR (by decide) rfl f2 (hK _ _ (NewT.refl _) rfl)
  · intro a wx hT hF K hK
    obtain ⟨f11, f10, _⟩ := hF
    have f11 : (x.kind == y.kind) = true → a.tmps.getD 11 undef = .pointer (some ⟨w.heap.size, 1, none⟩) := f11
    have f10 : a.tmps.getD 10 undef = .bool (x.kind == y.kind) := f10
    refine rely_if (rely_gt f10) (NewT.refl _) hK (fun hE hK => ?_)
    exact opr_ldI (hT.row R1.out) (by decide) rfl rfl (f11 hE) (hK _ _ (NewT.refl _) rfl)
  · intro a wx hT hF K hK
    obtain ⟨f3, f10, _⟩ := hF
    have f3 : a.tmps.getD 3 undef = .pointer (some ⟨w.heap.size + 1, 0, none⟩) := f3
    have f10 : a.tmps.getD 10 undef = .bool (x.kind == y.kind) := f10
    refine rely_if (rely_gt f10) (NewT.refl _) hK (fun hE hK => ?_)
    exact opr_fldR (by decide) rfl f3 (hK _ _ (NewT.refl _) rfl)
  · intro a wx hT hF K hK
    obtain ⟨f13, f10, _⟩ := hF
    have f13 : (x.kind == y.kind) = true → a.tmps.getD 13 undef = .pointer (some ⟨w.heap.size + 1, 1, none⟩) := f13
    have f10 : a.tmps.getD 10 undef = .bool (x.kind == y.kind) := f10
    refine rely_if (rely_gt f10) (NewT.refl _) hK (fun hE hK => ?_)
    exact opr_ldI (hT.row R2.out) (by decide) rfl rfl (f13 hE) (hK _ _ (NewT.refl _) rfl)
  · intro a wx hT hF K hK
    obtain ⟨f12, f14, f10, _⟩ := hF
    have f12 : (x.kind == y.kind) = true → a.tmps.getD 12 undef = .int .i64 (x.saga) := f12
    have f14 : (x.kind == y.kind) = true → a.tmps.getD 14 undef = .int .i64 (y.saga) := f14
    have f10 : a.tmps.getD 10 undef = .bool (x.kind == y.kind) := f10
    refine rely_if (rely_gt f10) (NewT.refl _) hK (fun hE hK => ?_)
    exact opr_cmp (b := x.saga == y.saga) (.inl ⟨rfl, rfl⟩) Tryd.underlying3 rfl (f12 hE) (f14 hE) (hK _ _ (NewT.refl _) rfl)
  · intro a wx hT hF K hK
    obtain ⟨f10, f15, _⟩ := hF
    have f10 : a.tmps.getD 10 undef = .bool (x.kind == y.kind) := f10
    have f15 : (x.kind == y.kind) = true → a.tmps.getD 15 undef = .bool (x.saga == y.saga) := f15
    refine rely_wp rfl ?_
    exact opr_pick_b rfl f10 (fun hb => hK _ _ (NewT.refl _) (pn_and1 Q1_1 (f15 hb) hb)) (fun hb => hK _ _ (NewT.refl _) (pn_and0 Q1_1 hb))
  · intro a wx hT hF K hK
    obtain ⟨f16, _⟩ := hF
    have f16 : a.tmps.getD 16 undef = .bool (q1_1) := f16
    refine rely_wp rfl ?_
    exact opr_move (.inl rfl) (hK _ _ (NewT.refl _) f16)
  · intro a wx hT hF K hK
    obtain ⟨f2, f17, _⟩ := hF
    have f2 : a.tmps.getD 2 undef = .pointer (some ⟨w.heap.size, 0, none⟩) := f2
    have f17 : a.tmps.getD 17 undef = .bool (q1_1) := f17
    refine rely_if (rely_gt f17) (NewT.refl _) hK (fun hE hK => ?_)
    exact opr_fldR (by decide) rfl f2 (hK _ _ (NewT.refl _) rfl)
  · intro a wx hT hF K hK
    obtain ⟨f18, f17, _⟩ := hF
    have f18 : q1_1 = true → a.tmps.getD 18 undef = .pointer (some ⟨w.heap.size, 2, none⟩) := f18
    have f17 : a.tmps.getD 17 undef = .bool (q1_1) := f17
    refine rely_if (rely_gt f17) (NewT.refl _) hK (fun hE hK => ?_)
    exact opr_ldI (hT.row R1.out) (by decide) rfl rfl (f18 hE) (hK _ _ (NewT.refl _) rfl)
  · intro a wx hT hF K hK
    obtain ⟨f3, f17, _⟩ := hF
    have f3 : a.tmps.getD 3 undef = .pointer (some ⟨w.heap.size + 1, 0, none⟩) := f3
    have f17 : a.tmps.getD 17 undef = .bool (q1_1) := f17
    refine rely_if (rely_gt f17) (NewT.refl _) hK (fun hE hK => ?_)
    exact opr_fldR (by decide) rfl f3 (hK _ _ (NewT.refl _) rfl)
  · intro a wx hT hF K hK
    obtain ⟨f20, f17, _⟩ := hF
    have f20 : q1_1 = true → a.tmps.getD 20 undef = .pointer (some ⟨w.heap.size + 1, 2, none⟩) := f20
    have f17 : a.tmps.getD 17 undef = .bool (q1_1) := f17
    refine rely_if (rely_gt f17) (NewT.refl _) hK (fun hE hK => ?_)
    exact opr_ldI (hT.row R2.out) (by decide) rfl rfl (f20 hE) (hK _ _ (NewT.refl _) rfl)
  · intro a wx hT hF K hK
    obtain ⟨f19, f21, f17, _⟩ := hF
    have f19 : q1_1 = true → a.tmps.getD 19 undef = .int .i64 (x.seq) := f19
    have f21 : q1_1 = true → a.tmps.getD 21 undef = .int .i64 (y.seq) := f21
    have f17 : a.tmps.getD 17 undef = .bool (q1_1) := f17
    refine rely_if (rely_gt f17) (NewT.refl _) hK (fun hE hK => ?_)
    exact opr_cmp (b := x.seq == y.seq) (.inl ⟨rfl, rfl⟩) Tryd.underlying3 rfl (f19 hE) (f21 hE) (hK _ _ (NewT.refl _) rfl)
  · intro a wx hT hF K hK
    obtain ⟨f17, f22, _⟩ := hF
    have f17 : a.tmps.getD 17 undef = .bool (q1_1) := f17
    have f22 : q1_1 = true → a.tmps.getD 22 undef = .bool (x.seq == y.seq) := f22
    refine rely_wp rfl ?_
    exact opr_pick_b rfl f17 (fun hb => hK _ _ (NewT.refl _) (pk_and1 (f22 hb) hb)) (fun hb => hK _ _ (NewT.refl _) (pk_and0 hb))
  · intro a wx hT hF K hK
    obtain ⟨f23, _⟩ := hF
    have f23 : a.tmps.getD 23 undef = .bool (q1_1 && (x.seq == y.seq)) := f23
    refine rely_wp rfl ?_
    exact opr_move (.inl rfl) (hK _ _ (NewT.refl _) f23)
  · intro a wx hT hF K hK
    obtain ⟨f2, f24, _⟩ := hF
    have f2 : a.tmps.getD 2 undef = .pointer (some ⟨w.heap.size, 0, none⟩) := f2
    have f24 : a.tmps.getD 24 undef = .bool (q1_1 && (x.seq == y.seq)) := f24
    refine rely_if (rely_gt f24) (NewT.refl _) hK (fun hE hK => ?_)
    exact opr_fldR (by decide) rfl f2 (hK _ _ (NewT.refl _) rfl)
  · intro a wx hT hF K hK
    obtain ⟨f25, f24, _⟩ := hF
    have f25 : (q1_1 && (x.seq == y.seq)) = true → a.tmps.getD 25 undef = .pointer (some ⟨w.heap.size, 3, none⟩) := f25
    have f24 : a.tmps.getD 24 undef = .bool (q1_1 && (x.seq == y.seq)) := f24
    refine rely_if (rely_gt f24) (NewT.refl _) hK (fun hE hK => ?_)
    exact opr_ldI (hT.row R1.out) (by decide) rfl rfl (f25 hE) (hK _ _ (NewT.refl _) rfl)
  · intro a wx hT hF K hK
    obtain ⟨f3, f24, _⟩ := hF
    have f3 : a.tmps.getD 3 undef = .pointer (some ⟨w.heap.size + 1, 0, none⟩) := f3
    have f24 : a.tmps.getD 24 undef = .bool (q1_1 && (x.seq == y.seq)) := f24
    refine rely_if (rely_gt f24) (NewT.refl _) hK (fun hE hK => ?_)
    exact opr_fldR (by decide) rfl f3 (hK _ _ (NewT.refl _) rfl)
  · intro a wx hT hF K hK
    obtain ⟨f27, f24, _⟩ := hF
    have f27 : (q1_1 && (x.seq == y.seq)) = true → a.tmps.getD 27 undef = .pointer (some ⟨w.heap.size + 1, 3, none⟩) := f27
    have f24 : a.tmps.getD 24 undef = .bool (q1_1 && (x.seq == y.seq)) := f24
    refine rely_if (rely_gt f24) (NewT.refl _) hK (fun hE hK => ?_)
    exact opr_ldI (hT.row R2.out) (by decide) rfl rfl (f27 hE) (hK _ _ (NewT.refl _) rfl)
  · intro a wx hT hF K hK
    obtain ⟨f26, f28, f24, _⟩ := hF
    have f26 : (q1_1 && (x.seq == y.seq)) = true → a.tmps.getD 26 undef = .int .i64 (x.step) := f26
    have f28 : (q1_1 && (x.seq == y.seq)) = true → a.tmps.getD 28 undef = .int .i64 (y.step) := f28
    have f24 : a.tmps.getD 24 undef = .bool (q1_1 && (x.seq == y.seq)) := f24
    refine rely_if (rely_gt f24) (NewT.refl _) hK (fun hE hK => ?_)
    exact opr_cmp (b := x.step == y.step) (.inl ⟨rfl, rfl⟩) Tryd.underlying3 rfl (f26 hE) (f28 hE) (hK _ _ (NewT.refl _) rfl)
  · intro a wx hT hF K hK
    obtain ⟨f24, f29, _⟩ := hF
    have f24 : a.tmps.getD 24 undef = .bool (q1_1 && (x.seq == y.seq)) := f24
    have f29 : (q1_1 && (x.seq == y.seq)) = true → a.tmps.getD 29 undef = .bool (x.step == y.step) := f29
    refine rely_wp rfl ?_
    exact opr_pick_b rfl f24 (fun hb => hK _ _ (NewT.refl _) (pn_and1 Q2_1 (f29 hb) hb)) (fun hb => hK _ _ (NewT.refl _) (pn_and0 Q2_1 hb))
  · intro a wx hT hF K hK
    obtain ⟨f30, _⟩ := hF
    have f30 : a.tmps.getD 30 undef = .bool (q2_1) := f30
    refine rely_wp rfl ?_
    exact opr_move (.inl rfl) (hK _ _ (NewT.refl _) f30)
  · intro a wx hT hF K hK
    obtain ⟨f2, f31, _⟩ := hF
    have f2 : a.tmps.getD 2 undef = .pointer (some ⟨w.heap.size, 0, none⟩) := f2
    have f31 : a.tmps.getD 31 undef = .bool (q2_1) := f31
    refine rely_if (rely_gt f31) (NewT.refl _) hK (fun hE hK => ?_)
    exact opr_fldR (by decide) rfl f2 (hK _ _ (NewT.refl _) rfl)
  · intro a wx hT hF K hK
    obtain ⟨f32, f31, _⟩ := hF
    have f32 : q2_1 = true → a.tmps.getD 32 undef = .pointer (some ⟨w.heap.size, 4, none⟩) := f32
    have f31 : a.tmps.getD 31 undef = .bool (q2_1) := f31
    refine rely_if (rely_gt f31) (NewT.refl _) hK (fun hE hK => ?_)
    exact opr_ldI (hT.row R1.out) (by decide) rfl rfl (f32 hE) (hK _ _ (NewT.refl _) rfl)
  · intro a wx hT hF K hK
    obtain ⟨f3, f31, _⟩ := hF
    have f3 : a.tmps.getD 3 undef = .pointer (some ⟨w.heap.size + 1, 0, none⟩) := f3
    have f31 : a.tmps.getD 31 undef = .bool (q2_1) := f31
    refine rely_if (rely_gt f31) (NewT.refl _) hK (fun hE hK => ?_)
    exact opr_fldR (by decide) rfl f3 (hK _ _ (NewT.refl _) rfl)
  · intro a wx hT hF K hK
    obtain ⟨f34, f31, _⟩ := hF
    have f34 : q2_1 = true → a.tmps.getD 34 undef = .pointer (some ⟨w.heap.size + 1, 4, none⟩) := f34
    have f31 : a.tmps.getD 31 undef = .bool (q2_1) := f31
    refine rely_if (rely_gt f31) (NewT.refl _) hK (fun hE hK => ?_)
    exact opr_ldI (hT.row R2.out) (by decide) rfl rfl (f34 hE) (hK _ _ (NewT.refl _) rfl)
  · intro a wx hT hF K hK
    obtain ⟨f33, f35, f31, _⟩ := hF
    have f33 : q2_1 = true → a.tmps.getD 33 undef = .int .i64 (x.tr) := f33
    have f35 : q2_1 = true → a.tmps.getD 35 undef = .int .i64 (y.tr) := f35
    have f31 : a.tmps.getD 31 undef = .bool (q2_1) := f31
    refine rely_if (rely_gt f31) (NewT.refl _) hK (fun hE hK => ?_)
    exact opr_cmp (b := x.tr == y.tr) (.inl ⟨rfl, rfl⟩) Tryd.underlying3 rfl (f33 hE) (f35 hE) (hK _ _ (NewT.refl _) rfl)
  · intro a wx hT hF K hK
    obtain ⟨f31, f36, _⟩ := hF
    have f31 : a.tmps.getD 31 undef = .bool (q2_1) := f31
    have f36 : q2_1 = true → a.tmps.getD 36 undef = .bool (x.tr == y.tr) := f36
    refine rely_wp rfl ?_
    exact opr_pick_b rfl f31 (fun hb => hK _ _ (NewT.refl _) (pk_and1 (f36 hb) hb)) (fun hb => hK _ _ (NewT.refl _) (pk_and0 hb))
  · intro a wx hT hF K hK
    obtain ⟨f37, _⟩ := hF
    have f37 : a.tmps.getD 37 undef = .bool (q2_1 && (x.tr == y.tr)) := f37
    refine rely_wp rfl ?_
    exact opr_move (.inl rfl) (hK _ _ (NewT.refl _) f37)
  · intro a wx hT hF K hK
    obtain ⟨f2, f38, _⟩ := hF
    have f2 : a.tmps.getD 2 undef = .pointer (some ⟨w.heap.size, 0, none⟩) := f2
    have f38 : a.tmps.getD 38 undef = .bool (q2_1 && (x.tr == y.tr)) := f38
    refine rely_if (rely_gt f38) (NewT.refl _) hK (fun hE hK => ?_)
    exact opr_fldR (by decide) rfl f2 (hK _ _ (NewT.refl _) rfl)
  · intro a wx hT hF K hK
    obtain ⟨f39, f38, _⟩ := hF
    have f39 : (q2_1 && (x.tr == y.tr)) = true → a.tmps.getD 39 undef = .pointer (some ⟨w.heap.size, 5, none⟩) := f39
    have f38 : a.tmps.getD 38 undef = .bool (q2_1 && (x.tr == y.tr)) := f38
    refine rely_if (rely_gt f38) (NewT.refl _) hK (fun hE hK => ?_)
    exact opr_ldQ (hT.row R1.out) (by decide) rfl rfl (f39 hE) (hK _ _ (NewT.refl _) rfl)
  · intro a wx hT hF K hK
    obtain ⟨f3, f38, _⟩ := hF
    have f3 : a.tmps.getD 3 undef = .pointer (some ⟨w.heap.size + 1, 0, none⟩) := f3
    have f38 : a.tmps.getD 38 undef = .bool (q2_1 && (x.tr == y.tr)) := f38
    refine rely_if (rely_gt f38) (NewT.refl _) hK (fun hE hK => ?_)
    exact opr_fldR (by decide) rfl f3 (hK _ _ (NewT.refl _) rfl)
  · intro a wx hT hF K hK
    obtain ⟨f41, f38, _⟩ := hF
    have f41 : (q2_1 && (x.tr == y.tr)) = true → a.tmps.getD 41 undef = .pointer (some ⟨w.heap.size + 1, 5, none⟩) := f41
    have f38 : a.tmps.getD 38 undef = .bool (q2_1 && (x.tr == y.tr)) := f38
    refine rely_if (rely_gt f38) (NewT.refl _) hK (fun hE hK => ?_)
    exact opr_ldQ (hT.row R2.out) (by decide) rfl rfl (f41 hE) (hK _ _ (NewT.refl _) rfl)
  · intro a wx hT hF K hK
    obtain ⟨f40, f42, f38, _⟩ := hF
    have f40 : (q2_1 && (x.tr == y.tr)) = true → a.tmps.getD 40 undef = .bool (x.back) := f40
    have f42 : (q2_1 && (x.tr == y.tr)) = true → a.tmps.getD 42 undef = .bool (y.back) := f42
    have f38 : a.tmps.getD 38 undef = .bool (q2_1 && (x.tr == y.tr)) := f38
    refine rely_if (rely_gt f38) (NewT.refl _) hK (fun hE hK => ?_)
    exact opr_eqlQ (b := x.back == y.back) (rfl) rfl (f40 hE) (f42 hE) (hK _ _ (NewT.refl _) rfl)
  · intro a wx hT hF K hK
    obtain ⟨f38, f43, _⟩ := hF
    have f38 : a.tmps.getD 38 undef = .bool (q2_1 && (x.tr == y.tr)) := f38
    have f43 : (q2_1 && (x.tr == y.tr)) = true → a.tmps.getD 43 undef = .bool (x.back == y.back) := f43
    refine rely_wp rfl ?_
    exact opr_pick_b rfl f38 (fun hb => hK _ _ (NewT.refl _) (pn_and1 Q3_1 (f43 hb) hb)) (fun hb => hK _ _ (NewT.refl _) (pn_and0 Q3_1 hb))
  · intro a wx hT hF K hK
    obtain ⟨f44, _⟩ := hF
    have f44 : a.tmps.getD 44 undef = .bool (q3_1) := f44
    refine rely_wp rfl ?_
    exact opr_move (.inl rfl) (hK _ _ (NewT.refl _) f44)
  · intro a wx hT hF K hK
    obtain ⟨f2, f45, _⟩ := hF
    have f2 : a.tmps.getD 2 undef = .pointer (some ⟨w.heap.size, 0, none⟩) := f2
    have f45 : a.tmps.getD 45 undef = .bool (q3_1) := f45
    refine rely_if (rely_gt f45) (NewT.refl _) hK (fun hE hK => ?_)
    exact opr_fldR (by decide) rfl f2 (hK _ _ (NewT.refl _) rfl)
  · intro a wx hT hF K hK
    obtain ⟨f46, f45, _⟩ := hF
    have f46 : q3_1 = true → a.tmps.getD 46 undef = .pointer (some ⟨w.heap.size, 6, none⟩) := f46
    have f45 : a.tmps.getD 45 undef = .bool (q3_1) := f45
    refine rely_if (rely_gt f45) (NewT.refl _) hK (fun hE hK => ?_)
    exact opr_ldQ (hT.row R1.out) (by decide) rfl rfl (f46 hE) (hK _ _ (NewT.refl _) rfl)
  · intro a wx hT hF K hK
    obtain ⟨f3, f45, _⟩ := hF
    have f3 : a.tmps.getD 3 undef = .pointer (some ⟨w.heap.size + 1, 0, none⟩) := f3
    have f45 : a.tmps.getD 45 undef = .bool (q3_1) := f45
    refine rely_if (rely_gt f45) (NewT.refl _) hK (fun hE hK => ?_)
    exact opr_fldR (by decide) rfl f3 (hK _ _ (NewT.refl _) rfl)
  · intro a wx hT hF K hK
    obtain ⟨f48, f45, _⟩ := hF
    have f48 : q3_1 = true → a.tmps.getD 48 undef = .pointer (some ⟨w.heap.size + 1, 6, none⟩) := f48
    have f45 : a.tmps.getD 45 undef = .bool (q3_1) := f45
    refine rely_if (rely_gt f45) (NewT.refl _) hK (fun hE hK => ?_)
    exact opr_ldQ (hT.row R2.out) (by decide) rfl rfl (f48 hE) (hK _ _ (NewT.refl _) rfl)
  · intro a wx hT hF K hK
    obtain ⟨f47, f49, f45, _⟩ := hF
    have f47 : q3_1 = true → a.tmps.getD 47 undef = .bool (x.good) := f47
    have f49 : q3_1 = true → a.tmps.getD 49 undef = .bool (y.good) := f49
    have f45 : a.tmps.getD 45 undef = .bool (q3_1) := f45
    refine rely_if (rely_gt f45) (NewT.refl _) hK (fun hE hK => ?_)
    exact opr_eqlQ (b := x.good == y.good) (rfl) rfl (f47 hE) (f49 hE) (hK _ _ (NewT.refl _) rfl)
  · intro a wx hT hF K hK
    obtain ⟨f45, f50, _⟩ := hF
    have f45 : a.tmps.getD 45 undef = .bool (q3_1) := f45
    have f50 : q3_1 = true → a.tmps.getD 50 undef = .bool (x.good == y.good) := f50
    refine rely_wp rfl ?_
    exact opr_pick_b rfl f45 (fun hb => hK _ _ (NewT.refl _) (pk_and1 (f50 hb) hb)) (fun hb => hK _ _ (NewT.refl _) (pk_and0 hb))
  · intro a wx hT hF K hK
    obtain ⟨f51, _⟩ := hF
    have f51 : a.tmps.getD 51 undef = .bool (q3_1 && (x.good == y.good)) := f51
    refine rely_wp rfl ?_
    exact opr_move (.inl rfl) (hK _ _ (NewT.refl _) f51)
  · intro a wx hT hF K hK
    obtain ⟨f2, f52, _⟩ := hF
    have f2 : a.tmps.getD 2 undef = .pointer (some ⟨w.heap.size, 0, none⟩) := f2
    have f52 : a.tmps.getD 52 undef = .bool (q3_1 && (x.good == y.good)) := f52
    refine rely_if (rely_gt f52) (NewT.refl _) hK (fun hE hK => ?_)
    exact opr_fldR (by decide) rfl f2 (hK _ _ (NewT.refl _) rfl)
  · intro a wx hT hF K hK
    obtain ⟨f53, f52, _⟩ := hF
    have f53 : (q3_1 && (x.good == y.good)) = true → a.tmps.getD 53 undef = .pointer (some ⟨w.heap.size, 7, none⟩) := f53
    have f52 : a.tmps.getD 52 undef = .bool (q3_1 && (x.good == y.good)) := f52
    refine rely_if (rely_gt f52) (NewT.refl _) hK (fun hE hK => ?_)
    exact opr_ldI (hT.row R1.out) (by decide) rfl rfl (f53 hE) (hK _ _ (NewT.refl _) rfl)
  · intro a wx hT hF K hK
    obtain ⟨f3, f52, _⟩ := hF
    have f3 : a.tmps.getD 3 undef = .pointer (some ⟨w.heap.size + 1, 0, none⟩) := f3
    have f52 : a.tmps.getD 52 undef = .bool (q3_1 && (x.good == y.good)) := f52
    refine rely_if (rely_gt f52) (NewT.refl _) hK (fun hE hK => ?_)
    exact opr_fldR (by decide) rfl f3 (hK _ _ (NewT.refl _) rfl)
  · intro a wx hT hF K hK
    obtain ⟨f55, f52, _⟩ := hF
    have f55 : (q3_1 && (x.good == y.good)) = true → a.tmps.getD 55 undef = .pointer (some ⟨w.heap.size + 1, 7, none⟩) := f55
    have f52 : a.tmps.getD 52 undef = .bool (q3_1 && (x.good == y.good)) := f52
    refine rely_if (rely_gt f52) (NewT.refl _) hK (fun hE hK => ?_)
    exact opr_ldI (hT.row R2.out) (by decide) rfl rfl (f55 hE) (hK _ _ (NewT.refl _) rfl)
  · intro a wx hT hF K hK
    obtain ⟨f54, f56, f52, _⟩ := hF
    have f54 : (q3_1 && (x.good == y.good)) = true → a.tmps.getD 54 undef = .int .i64 (x.nd) := f54
    have f56 : (q3_1 && (x.good == y.good)) = true → a.tmps.getD 56 undef = .int .i64 (y.nd) := f56
    have f52 : a.tmps.getD 52 undef = .bool (q3_1 && (x.good == y.good)) := f52
    refine rely_if (rely_gt f52) (NewT.refl _) hK (fun hE hK => ?_)
    exact opr_cmp (b := x.nd == y.nd) (.inl ⟨rfl, rfl⟩) Tryd.underlying3 rfl (f54 hE) (f56 hE) (hK _ _ (NewT.refl _) rfl)
  · intro a wx hT hF K hK
    obtain ⟨f52, f57, _⟩ := hF
    have f52 : a.tmps.getD 52 undef = .bool (q3_1 && (x.good == y.good)) := f52
    have f57 : (q3_1 && (x.good == y.good)) = true → a.tmps.getD 57 undef = .bool (x.nd == y.nd) := f57
    refine rely_wp rfl ?_
    exact opr_pick_b rfl f52 (fun hb => hK _ _ (NewT.refl _) (pn_and1 Q4_1 (f57 hb) hb)) (fun hb => hK _ _ (NewT.refl _) (pn_and0 Q4_1 hb))
  · intro a wx hT hF K hK
    obtain ⟨f58, _⟩ := hF
    have f58 : a.tmps.getD 58 undef = .bool (q4_1) := f58
    refine rely_wp rfl ?_
    exact opr_move (.inl rfl) (hK _ _ (NewT.refl _) f58)
  · intro a wx hT hF K hK
    obtain ⟨f2, f59, _⟩ := hF
    have f2 : a.tmps.getD 2 undef = .pointer (some ⟨w.heap.size, 0, none⟩) := f2
    have f59 : a.tmps.getD 59 undef = .bool (q4_1) := f59
    refine rely_if (rely_gt f59) (NewT.refl _) hK (fun hE hK => ?_)
    exact opr_fldR (by decide) rfl f2 (hK _ _ (NewT.refl _) rfl)
  · intro a wx hT hF K hK
    obtain ⟨f60, f59, _⟩ := hF
    have f60 : q4_1 = true → a.tmps.getD 60 undef = .pointer (some ⟨w.heap.size, 8, none⟩) := f60
    have f59 : a.tmps.getD 59 undef = .bool (q4_1) := f59
    refine rely_if (rely_gt f59) (NewT.refl _) hK (fun hE hK => ?_)
    exact opr_ldI (hT.row R1.out) (by decide) rfl rfl (f60 hE) (hK _ _ (NewT.refl _) rfl)
  · intro a wx hT hF K hK
    obtain ⟨f3, f59, _⟩ := hF
    have f3 : a.tmps.getD 3 undef = .pointer (some ⟨w.heap.size + 1, 0, none⟩) := f3
    have f59 : a.tmps.getD 59 undef = .bool (q4_1) := f59
    refine rely_if (rely_gt f59) (NewT.refl _) hK (fun hE hK => ?_)
    exact opr_fldR (by decide) rfl f3 (hK _ _ (NewT.refl _) rfl)
  · intro a wx hT hF K hK
    obtain ⟨f62, f59, _⟩ := hF
    have f62 : q4_1 = true → a.tmps.getD 62 undef = .pointer (some ⟨w.heap.size + 1, 8, none⟩) := f62
    have f59 : a.tmps.getD 59 undef = .bool (q4_1) := f59
    refine rely_if (rely_gt f59) (NewT.refl _) hK (fun hE hK => ?_)
    exact opr_ldI (hT.row R2.out) (by decide) rfl rfl (f62 hE) (hK _ _ (NewT.refl _) rfl)
  · intro a wx hT hF K hK
    obtain ⟨f61, f63, f59, _⟩ := hF
    have f61 : q4_1 = true → a.tmps.getD 61 undef = .int .i64 (x.part) := f61
    have f63 : q4_1 = true → a.tmps.getD 63 undef = .int .i64 (y.part) := f63
    have f59 : a.tmps.getD 59 undef = .bool (q4_1) := f59
    refine rely_if (rely_gt f59) (NewT.refl _) hK (fun hE hK => ?_)
    exact opr_cmp (b := x.part == y.part) (.inl ⟨rfl, rfl⟩) Tryd.underlying3 rfl (f61 hE) (f63 hE) (hK _ _ (NewT.refl _) rfl)
  · intro a wx hT hF K hK
    obtain ⟨f59, f64, _⟩ := hF
    have f59 : a.tmps.getD 59 undef = .bool (q4_1) := f59
    have f64 : q4_1 = true → a.tmps.getD 64 undef = .bool (x.part == y.part) := f64
    refine rely_wp rfl ?_
    exact opr_pick_b rfl f59 (fun hb => hK _ _ (NewT.refl _) (pk_and1 (f64 hb) hb)) (fun hb => hK _ _ (NewT.refl _) (pk_and0 hb))
  · intro a wx hT hF K hK
    obtain ⟨f65, _⟩ := hF
    have f65 : a.tmps.getD 65 undef = .bool (q4_1 && (x.part == y.part)) := f65
    refine rely_wp rfl ?_
    exact opr_move (.inl rfl) (hK _ _ (NewT.refl _) f65)
  · intro a wx hT hF K hK
    obtain ⟨f2, f66, _⟩ := hF
    have f2 : a.tmps.getD 2 undef = .pointer (some ⟨w.heap.size, 0, none⟩) := f2
    have f66 : a.tmps.getD 66 undef = .bool (q4_1 && (x.part == y.part)) := f66
    refine rely_if (rely_gt f66) (NewT.refl _) hK (fun hE hK => ?_)
    exact opr_fldR (by decide) rfl f2 (hK _ _ (NewT.refl _) rfl)
  · intro a wx hT hF K hK
    obtain ⟨f67, f66, _⟩ := hF
    have f67 : (q4_1 && (x.part == y.part)) = true → a.tmps.getD 67 undef = .pointer (some ⟨w.heap.size, 9, none⟩) := f67
    have f66 : a.tmps.getD 66 undef = .bool (q4_1 && (x.part == y.part)) := f66
    refine rely_if (rely_gt f66) (NewT.refl _) hK (fun hE hK => ?_)
    exact opr_ldI (hT.row R1.out) (by decide) rfl rfl (f67 hE) (hK _ _ (NewT.refl _) rfl)
  · intro a wx hT hF K hK
    obtain ⟨f3, f66, _⟩ := hF
    have f3 : a.tmps.getD 3 undef = .pointer (some ⟨w.heap.size + 1, 0, none⟩) := f3
    have f66 : a.tmps.getD 66 undef = .bool (q4_1 && (x.part == y.part)) := f66
    refine rely_if (rely_gt f66) (NewT.refl _) hK (fun hE hK => ?_)
    exact opr_fldR (by decide) rfl f3 (hK _ _ (NewT.refl _) rfl)
  · intro a wx hT hF K hK
    obtain ⟨f69, f66, _⟩ := hF
    have f69 : (q4_1 && (x.part == y.part)) = true → a.tmps.getD 69 undef = .pointer (some ⟨w.heap.size + 1, 9, none⟩) := f69
    have f66 : a.tmps.getD 66 undef = .bool (q4_1 && (x.part == y.part)) := f66
    refine rely_if (rely_gt f66) (NewT.refl _) hK (fun hE hK => ?_)
    exact opr_ldI (hT.row R2.out) (by decide) rfl rfl (f69 hE) (hK _ _ (NewT.refl _) rfl)
  · intro a wx hT hF K hK
    obtain ⟨f68, f70, f66, _⟩ := hF
    have f68 : (q4_1 && (x.part == y.part)) = true → a.tmps.getD 68 undef = .int .i64 (x.epoch) := f68
    have f70 : (q4_1 && (x.part == y.part)) = true → a.tmps.getD 70 undef = .int .i64 (y.epoch) := f70
    have f66 : a.tmps.getD 66 undef = .bool (q4_1 && (x.part == y.part)) := f66
    refine rely_if (rely_gt f66) (NewT.refl _) hK (fun hE hK => ?_)
    exact opr_cmp (b := x.epoch == y.epoch) (.inl ⟨rfl, rfl⟩) Tryd.underlying3 rfl (f68 hE) (f70 hE) (hK _ _ (NewT.refl _) rfl)
  · intro a wx hT hF K hK
    obtain ⟨f66, f71, _⟩ := hF
    have f66 : a.tmps.getD 66 undef = .bool (q4_1 && (x.part == y.part)) := f66
    have f71 : (q4_1 && (x.part == y.part)) = true → a.tmps.getD 71 undef = .bool (x.epoch == y.epoch) := f71
    refine rely_wp rfl ?_
    exact opr_pick_b rfl f66 (fun hb => hK _ _ (NewT.refl _) (pn_and1 Q5_1 (f71 hb) hb)) (fun hb => hK _ _ (NewT.refl _) (pn_and0 Q5_1 hb))
  · intro a wx hT hF K hK
    obtain ⟨f72, _⟩ := hF
    have f72 : a.tmps.getD 72 undef = .bool (q5_1) := f72
    refine rely_wp rfl ?_
    exact opr_move (.inl rfl) (hK _ _ (NewT.refl _) f72)
  · intro a wx hT hF K hK
    obtain ⟨f2, f73, _⟩ := hF
    have f2 : a.tmps.getD 2 undef = .pointer (some ⟨w.heap.size, 0, none⟩) := f2
    have f73 : a.tmps.getD 73 undef = .bool (q5_1) := f73
    refine rely_if (rely_gt f73) (NewT.refl _) hK (fun hE hK => ?_)
    exact opr_fldR (by decide) rfl f2 (hK _ _ (NewT.refl _) rfl)
  · intro a wx hT hF K hK
    obtain ⟨f74, f73, _⟩ := hF
    have f74 : q5_1 = true → a.tmps.getD 74 undef = .pointer (some ⟨w.heap.size, 10, none⟩) := f74
    have f73 : a.tmps.getD 73 undef = .bool (q5_1) := f73
    refine rely_if (rely_gt f73) (NewT.refl _) hK (fun hE hK => ?_)
    exact opr_ldH (hT.row R1.out) (by decide) (recF_tag x _ _) rfl (f74 hE) (hK _ _ (NewT.refl _) rfl)
  · intro a wx hT hF K hK
    obtain ⟨f3, f73, _⟩ := hF
    have f3 : a.tmps.getD 3 undef = .pointer (some ⟨w.heap.size + 1, 0, none⟩) := f3
    have f73 : a.tmps.getD 73 undef = .bool (q5_1) := f73
    refine rely_if (rely_gt f73) (NewT.refl _) hK (fun hE hK => ?_)
    exact opr_fldR (by decide) rfl f3 (hK _ _ (NewT.refl _) rfl)
  · intro a wx hT hF K hK
    obtain ⟨f76, f73, _⟩ := hF
    have f76 : q5_1 = true → a.tmps.getD 76 undef = .pointer (some ⟨w.heap.size + 1, 10, none⟩) := f76
    have f73 : a.tmps.getD 73 undef = .bool (q5_1) := f73
    refine rely_if (rely_gt f73) (NewT.refl _) hK (fun hE hK => ?_)
    exact opr_ldH (hT.row R2.out) (by decide) (recF_tag y _ _) rfl (f76 hE) (hK _ _ (NewT.refl _) rfl)
  · intro a wx hT hF K hK
    obtain ⟨f75, f77, f73, _⟩ := hF
    have f75 : q5_1 = true → a.tmps.getD 75 undef = .agg (rowA 32 (bF (x.tag))) := f75
    have f77 : q5_1 = true → a.tmps.getD 77 undef = .agg (rowA 32 (bF (y.tag))) := f77
    have f73 : a.tmps.getD 73 undef = .bool (q5_1) := f73
    refine rely_if (rely_gt f73) (NewT.refl _) hK (fun hE hK => ?_)
    exact opr_eql_hash (b := eqH (x.tag) (y.tag)) rfl (f75 hE) (f77 hE) (rfl) (hK _ _ (NewT.refl _) rfl)
  · intro a wx hT hF K hK
    obtain ⟨f73, f78, _⟩ := hF
    have f73 : a.tmps.getD 73 undef = .bool (q5_1) := f73
    have f78 : q5_1 = true → a.tmps.getD 78 undef = .bool (eqH (x.tag) (y.tag)) := f78
    refine rely_wp rfl ?_
    exact opr_pick_b rfl f73 (fun hb => hK _ _ (NewT.refl _) (pk_and1 (f78 hb) hb)) (fun hb => hK _ _ (NewT.refl _) (pk_and0 hb))
  · intro a wx hT hF K hK
    obtain ⟨f79, _⟩ := hF
    have f79 : a.tmps.getD 79 undef = .bool (q5_1 && (eqH (x.tag) (y.tag))) := f79
    refine rely_wp rfl ?_
    exact opr_move (.inl rfl) (hK _ _ (NewT.refl _) f79)
  · intro a wx hT hF K hK
    obtain ⟨f2, f80, _⟩ := hF
    have f2 : a.tmps.getD 2 undef = .pointer (some ⟨w.heap.size, 0, none⟩) := f2
    have f80 : a.tmps.getD 80 undef = .bool (q5_1 && (eqH (x.tag) (y.tag))) := f80
    refine rely_if (rely_gt f80) (NewT.refl _) hK (fun hE hK => ?_)
    exact opr_fldR (by decide) rfl f2 (hK _ _ (NewT.refl _) rfl)
  · intro a wx hT hF K hK
    obtain ⟨f81, f80, _⟩ := hF
    have f81 : (q5_1 && (eqH (x.tag) (y.tag))) = true → a.tmps.getD 81 undef = .pointer (some ⟨w.heap.size, 42, none⟩) := f81
    have f80 : a.tmps.getD 80 undef = .bool (q5_1 && (eqH (x.tag) (y.tag))) := f80
    refine rely_if (rely_gt f80) (NewT.refl _) hK (fun hE hK => ?_)
    exact opr_ldS (hT.row R1.out) (by decide) rfl rfl (f81 hE) (hK _ _ (NewT.refl _) rfl)
  · intro a wx hT hF K hK
    obtain ⟨f3, f80, _⟩ := hF
    have f3 : a.tmps.getD 3 undef = .pointer (some ⟨w.heap.size + 1, 0, none⟩) := f3
    have f80 : a.tmps.getD 80 undef = .bool (q5_1 && (eqH (x.tag) (y.tag))) := f80
    refine rely_if (rely_gt f80) (NewT.refl _) hK (fun hE hK => ?_)
    exact opr_fldR (by decide) rfl f3 (hK _ _ (NewT.refl _) rfl)
  · intro a wx hT hF K hK
    obtain ⟨f83, f80, _⟩ := hF
    have f83 : (q5_1 && (eqH (x.tag) (y.tag))) = true → a.tmps.getD 83 undef = .pointer (some ⟨w.heap.size + 1, 42, none⟩) := f83
    have f80 : a.tmps.getD 80 undef = .bool (q5_1 && (eqH (x.tag) (y.tag))) := f80
    refine rely_if (rely_gt f80) (NewT.refl _) hK (fun hE hK => ?_)
    exact opr_ldS (hT.row R2.out) (by decide) rfl rfl (f83 hE) (hK _ _ (NewT.refl _) rfl)
  · intro a wx hT hF K hK
    obtain ⟨f82, f84, f80, _⟩ := hF
    have f82 : (q5_1 && (eqH (x.tag) (y.tag))) = true → a.tmps.getD 82 undef = sv := f82
    have f84 : (q5_1 && (eqH (x.tag) (y.tag))) = true → a.tmps.getD 84 undef = su := f84
    have f80 : a.tmps.getD 80 undef = .bool (q5_1 && (eqH (x.tag) (y.tag))) := f80
    refine rely_if (rely_gt f80) (NewT.refl _) hK (fun hE hK => ?_)
    exact opr_cv (Equal_cv _ _ x.steps y.steps wx (hT.pairs HS.out) (hT.pairs HU.out)) rfl Tryd.func36 (by kernel_rfl) (by kernel_rfl) (by simp only [List.map_toArray, List.map_cons, List.map_nil, eval_tmp, (f82 hE), (f84 hE)]) hK
  · intro a wx hT hF K hK
    obtain ⟨f80, f85, _⟩ := hF
    have f80 : a.tmps.getD 80 undef = .bool (q5_1 && (eqH (x.tag) (y.tag))) := f80
    have f85 : (q5_1 && (eqH (x.tag) (y.tag))) = true → a.tmps.getD 85 undef = .bool (decide (x.steps = y.steps)) := f85
    refine rely_wp rfl ?_
    exact opr_pick_b rfl f80 (fun hb => hK _ _ (NewT.refl _) (pn_and1 Q6_1 (f85 hb) hb)) (fun hb => hK _ _ (NewT.refl _) (pn_and0 Q6_1 hb))
  · intro a wx hT hF K hK
    obtain ⟨f86, _⟩ := hF
    have f86 : a.tmps.getD 86 undef = .bool (q6_1) := f86
    refine rely_wp rfl ?_
    exact opr_move (.inl rfl) (hK _ _ (NewT.refl _) f86)
  · intro a wx hT hF K hK
    obtain ⟨f2, f87, _⟩ := hF
    have f2 : a.tmps.getD 2 undef = .pointer (some ⟨w.heap.size, 0, none⟩) := f2
    have f87 : a.tmps.getD 87 undef = .bool (q6_1) := f87
    refine rely_if (rely_gt f87) (NewT.refl _) hK (fun hE hK => ?_)
    exact opr_fldR (by decide) rfl f2 (hK _ _ (NewT.refl _) rfl)
  · intro a wx hT hF K hK
    obtain ⟨f88, f87, _⟩ := hF
    have f88 : q6_1 = true → a.tmps.getD 88 undef = .pointer (some ⟨w.heap.size, 43, none⟩) := f88
    have f87 : a.tmps.getD 87 undef = .bool (q6_1) := f87
    refine rely_if (rely_gt f87) (NewT.refl _) hK (fun hE hK => ?_)
    exact opr_ldB (hT.row R1.out) (by decide) rfl rfl (f88 hE) (hK _ _ (NewT.refl _) rfl)
  · intro a wx hT hF K hK
    obtain ⟨f3, f87, _⟩ := hF
    have f3 : a.tmps.getD 3 undef = .pointer (some ⟨w.heap.size + 1, 0, none⟩) := f3
    have f87 : a.tmps.getD 87 undef = .bool (q6_1) := f87
    refine rely_if (rely_gt f87) (NewT.refl _) hK (fun hE hK => ?_)
    exact opr_fldR (by decide) rfl f3 (hK _ _ (NewT.refl _) rfl)
  · intro a wx hT hF K hK
    obtain ⟨f90, f87, _⟩ := hF
    have f90 : q6_1 = true → a.tmps.getD 90 undef = .pointer (some ⟨w.heap.size + 1, 43, none⟩) := f90
    have f87 : a.tmps.getD 87 undef = .bool (q6_1) := f87
    refine rely_if (rely_gt f87) (NewT.refl _) hK (fun hE hK => ?_)
    exact opr_ldB (hT.row R2.out) (by decide) rfl rfl (f90 hE) (hK _ _ (NewT.refl _) rfl)
  · intro a wx hT hF K hK
    obtain ⟨f89, f91, f87, _⟩ := hF
    have f89 : q6_1 = true → a.tmps.getD 89 undef = dv := f89
    have f91 : q6_1 = true → a.tmps.getD 91 undef = du := f91
    have f87 : a.tmps.getD 87 undef = .bool (q6_1) := f87
    refine rely_if (rely_gt f87) (NewT.refl _) hK (fun hE hK => ?_)
    exact opr_cv (BEqual_cv _ _ x.data y.data wx (hT.rd HD.out) (hT.rd HE.out)) rfl Tryd.func37 (by kernel_rfl) (by kernel_rfl) (by simp only [List.map_toArray, List.map_cons, List.map_nil, eval_tmp, (f89 hE), (f91 hE)]) hK
  · intro a wx hT hF K hK
    obtain ⟨f87, f92, _⟩ := hF
    have f87 : a.tmps.getD 87 undef = .bool (q6_1) := f87
    have f92 : q6_1 = true → a.tmps.getD 92 undef = .bool (decide (x.data = y.data)) := f92
    refine rely_wp rfl ?_
    exact opr_pick_b rfl f87 (fun hb => hK _ _ (NewT.refl _) (pn_and1 Q7_1 (f92 hb) hb)) (fun hb => hK _ _ (NewT.refl _) (pn_and0 Q7_1 hb))
  · intro a wx hT hF K hK
    obtain ⟨f93, _⟩ := hF
    have f93 : a.tmps.getD 93 undef = .bool (q7_1) := f93
    refine rely_wp rfl ?_
    exact opr_move (.inl rfl) (hK _ _ (NewT.refl _) f93)
  · intro a wx hT hF K hK
    obtain ⟨f2, f94, _⟩ := hF
    have f2 : a.tmps.getD 2 undef = .pointer (some ⟨w.heap.size, 0, none⟩) := f2
    have f94 : a.tmps.getD 94 undef = .bool (q7_1) := f94
    refine rely_if (rely_gt f94) (NewT.refl _) hK (fun hE hK => ?_)
    exact opr_fldR (by decide) rfl f2 (hK _ _ (NewT.refl _) rfl)
  · intro a wx hT hF K hK
    obtain ⟨f95, f94, _⟩ := hF
    have f95 : q7_1 = true → a.tmps.getD 95 undef = .pointer (some ⟨w.heap.size, 44, none⟩) := f95
    have f94 : a.tmps.getD 94 undef = .bool (q7_1) := f94
    refine rely_if (rely_gt f94) (NewT.refl _) hK (fun hE hK => ?_)
    exact opr_ldH (hT.row R1.out) (by decide) (recF_salt x _ _) rfl (f95 hE) (hK _ _ (NewT.refl _) rfl)
  · intro a wx hT hF K hK
    obtain ⟨f3, f94, _⟩ := hF
    have f3 : a.tmps.getD 3 undef = .pointer (some ⟨w.heap.size + 1, 0, none⟩) := f3
    have f94 : a.tmps.getD 94 undef = .bool (q7_1) := f94
    refine rely_if (rely_gt f94) (NewT.refl _) hK (fun hE hK => ?_)
    exact opr_fldR (by decide) rfl f3 (hK _ _ (NewT.refl _) rfl)
  · intro a wx hT hF K hK
    obtain ⟨f97, f94, _⟩ := hF
    have f97 : q7_1 = true → a.tmps.getD 97 undef = .pointer (some ⟨w.heap.size + 1, 44, none⟩) := f97
    have f94 : a.tmps.getD 94 undef = .bool (q7_1) := f94
    refine rely_if (rely_gt f94) (NewT.refl _) hK (fun hE hK => ?_)
    exact opr_ldH (hT.row R2.out) (by decide) (recF_salt y _ _) rfl (f97 hE) (hK _ _ (NewT.refl _) rfl)
  · intro a wx hT hF K hK
    obtain ⟨f96, f98, f94, _⟩ := hF
    have f96 : q7_1 = true → a.tmps.getD 96 undef = .agg (rowA 32 (bF (x.salt))) := f96
    have f98 : q7_1 = true → a.tmps.getD 98 undef = .agg (rowA 32 (bF (y.salt))) := f98
    have f94 : a.tmps.getD 94 undef = .bool (q7_1) := f94
    refine rely_if (rely_gt f94) (NewT.refl _) hK (fun hE hK => ?_)
    exact opr_eql_hash (b := eqH (x.salt) (y.salt)) rfl (f96 hE) (f98 hE) (rfl) (hK _ _ (NewT.refl _) rfl)
  · intro a wx hT hF K hK
    obtain ⟨f94, f99, _⟩ := hF
    have f94 : a.tmps.getD 94 undef = .bool (q7_1) := f94
    have f99 : q7_1 = true → a.tmps.getD 99 undef = .bool (eqH (x.salt) (y.salt)) := f99
    refine rely_wp rfl ?_
    exact opr_pick_b rfl f94 (fun hb => hK _ _ (NewT.refl _) (pn_and1 Q8_1 (f99 hb) hb)) (fun hb => hK _ _ (NewT.refl _) (pn_and0 Q8_1 hb))
  · intro a wx hT hF K hK
    obtain ⟨f100, _⟩ := hF
    have f100 : a.tmps.getD 100 undef = .bool (q8_1) := f100
    refine rely_wp rfl ?_
    exact opr_move (.inl rfl) (hK _ _ (NewT.refl _) f100)
  · intro a wx hT hF K hK
    obtain ⟨f2, f101, _⟩ := hF
    have f2 : a.tmps.getD 2 undef = .pointer (some ⟨w.heap.size, 0, none⟩) := f2
    have f101 : a.tmps.getD 101 undef = .bool (q8_1) := f101
    refine rely_if (rely_gt f101) (NewT.refl _) hK (fun hE hK => ?_)
    exact opr_fldR (by decide) rfl f2 (hK _ _ (NewT.refl _) rfl)
  · intro a wx hT hF K hK
    obtain ⟨f102, f101, _⟩ := hF
    have f102 : q8_1 = true → a.tmps.getD 102 undef = .pointer (some ⟨w.heap.size, 76, none⟩) := f102
    have f101 : a.tmps.getD 101 undef = .bool (q8_1) := f101
    refine rely_if (rely_gt f101) (NewT.refl _) hK (fun hE hK => ?_)
    exact opr_ldQ (hT.row R1.out) (by decide) rfl rfl (f102 hE) (hK _ _ (NewT.refl _) rfl)
  · intro a wx hT hF K hK
    obtain ⟨f3, f101, _⟩ := hF
    have f3 : a.tmps.getD 3 undef = .pointer (some ⟨w.heap.size + 1, 0, none⟩) := f3
    have f101 : a.tmps.getD 101 undef = .bool (q8_1) := f101
    refine rely_if (rely_gt f101) (NewT.refl _) hK (fun hE hK => ?_)
    exact opr_fldR (by decide) rfl f3 (hK _ _ (NewT.refl _) rfl)
  · intro a wx hT hF K hK
    obtain ⟨f104, f101, _⟩ := hF
    have f104 : q8_1 = true → a.tmps.getD 104 undef = .pointer (some ⟨w.heap.size + 1, 76, none⟩) := f104
    have f101 : a.tmps.getD 101 undef = .bool (q8_1) := f101
    refine rely_if (rely_gt f101) (NewT.refl _) hK (fun hE hK => ?_)
    exact opr_ldQ (hT.row R2.out) (by decide) rfl rfl (f104 hE) (hK _ _ (NewT.refl _) rfl)
  · intro a wx hT hF K hK
    obtain ⟨f103, f105, f101, _⟩ := hF
    have f103 : q8_1 = true → a.tmps.getD 103 undef = .bool (x.gone) := f103
    have f105 : q8_1 = true → a.tmps.getD 105 undef = .bool (y.gone) := f105
    have f101 : a.tmps.getD 101 undef = .bool (q8_1) := f101
    refine rely_if (rely_gt f101) (NewT.refl _) hK (fun hE hK => ?_)
    exact opr_eqlQ (b := x.gone == y.gone) (rfl) rfl (f103 hE) (f105 hE) (hK _ _ (NewT.refl _) rfl)
  · intro a wx hT hF K hK
    obtain ⟨f101, f106, _⟩ := hF
    have f101 : a.tmps.getD 101 undef = .bool (q8_1) := f101
    have f106 : q8_1 = true → a.tmps.getD 106 undef = .bool (x.gone == y.gone) := f106
    refine rely_wp rfl ?_
    exact opr_pick_b rfl f101 (fun hb => hK _ _ (NewT.refl _) (pk_and1 (f106 hb) hb)) (fun hb => hK _ _ (NewT.refl _) (pk_and0 hb))
  · intro a wx hT hF K hK
    obtain ⟨f107, _⟩ := hF
    have f107 : a.tmps.getD 107 undef = .bool (q8_1 && (x.gone == y.gone)) := f107
    refine rely_wp rfl ?_
    exact opr_move (.inl rfl) (hK _ _ (NewT.refl _) f107)
  · intro a wx hT hF K hK
    obtain ⟨f2, f108, _⟩ := hF
    have f2 : a.tmps.getD 2 undef = .pointer (some ⟨w.heap.size, 0, none⟩) := f2
    have f108 : a.tmps.getD 108 undef = .bool (q8_1 && (x.gone == y.gone)) := f108
    refine rely_if (rely_gt f108) (NewT.refl _) hK (fun hE hK => ?_)
    exact opr_fldR (by decide) rfl f2 (hK _ _ (NewT.refl _) rfl)
  · intro a wx hT hF K hK
    obtain ⟨f109, f108, _⟩ := hF
    have f109 : (q8_1 && (x.gone == y.gone)) = true → a.tmps.getD 109 undef = .pointer (some ⟨w.heap.size, 77, none⟩) := f109
    have f108 : a.tmps.getD 108 undef = .bool (q8_1 && (x.gone == y.gone)) := f108
    refine rely_if (rely_gt f108) (NewT.refl _) hK (fun hE hK => ?_)
    exact opr_ldH (hT.row R1.out) (by decide) (recF_com x _ _) rfl (f109 hE) (hK _ _ (NewT.refl _) rfl)
  · intro a wx hT hF K hK
    obtain ⟨f3, f108, _⟩ := hF
    have f3 : a.tmps.getD 3 undef = .pointer (some ⟨w.heap.size + 1, 0, none⟩) := f3
    have f108 : a.tmps.getD 108 undef = .bool (q8_1 && (x.gone == y.gone)) := f108
    refine rely_if (rely_gt f108) (NewT.refl _) hK (fun hE hK => ?_)
    exact opr_fldR (by decide) rfl f3 (hK _ _ (NewT.refl _) rfl)
  · intro a wx hT hF K hK
    obtain ⟨f111, f108, _⟩ := hF
    have f111 : (q8_1 && (x.gone == y.gone)) = true → a.tmps.getD 111 undef = .pointer (some ⟨w.heap.size + 1, 77, none⟩) := f111
    have f108 : a.tmps.getD 108 undef = .bool (q8_1 && (x.gone == y.gone)) := f108
    refine rely_if (rely_gt f108) (NewT.refl _) hK (fun hE hK => ?_)
    exact opr_ldH (hT.row R2.out) (by decide) (recF_com y _ _) rfl (f111 hE) (hK _ _ (NewT.refl _) rfl)
  · intro a wx hT hF K hK
    obtain ⟨f110, f112, f108, _⟩ := hF
    have f110 : (q8_1 && (x.gone == y.gone)) = true → a.tmps.getD 110 undef = .agg (rowA 32 (bF (x.com))) := f110
    have f112 : (q8_1 && (x.gone == y.gone)) = true → a.tmps.getD 112 undef = .agg (rowA 32 (bF (y.com))) := f112
    have f108 : a.tmps.getD 108 undef = .bool (q8_1 && (x.gone == y.gone)) := f108
    refine rely_if (rely_gt f108) (NewT.refl _) hK (fun hE hK => ?_)
    exact opr_eql_hash (b := eqH (x.com) (y.com)) rfl (f110 hE) (f112 hE) (rfl) (hK _ _ (NewT.refl _) rfl)
  · intro a wx hT hF K hK
    obtain ⟨f108, f113, _⟩ := hF
    have f108 : a.tmps.getD 108 undef = .bool (q8_1 && (x.gone == y.gone)) := f108
    have f113 : (q8_1 && (x.gone == y.gone)) = true → a.tmps.getD 113 undef = .bool (eqH (x.com) (y.com)) := f113
    refine rely_wp rfl ?_
    exact opr_pick_b rfl f108 (fun hb => hK _ _ (NewT.refl _) (pn_and1 Q9_1 (f113 hb) hb)) (fun hb => hK _ _ (NewT.refl _) (pn_and0 Q9_1 hb))
  · intro wx hT
    intro u h; obtain rfl := Eq.symm (h (by simp)); clear h
    intro u h; obtain rfl := Eq.symm (h (by simp)); clear h
    intro u h; obtain rfl := Eq.symm (h (by simp)); clear h
    intro u h; obtain rfl := Eq.symm (h (by simp)); clear h
    intro u h; obtain rfl := Eq.symm (h (by simp)); clear h
    intro u h; obtain rfl := Eq.symm (h (by simp)); clear h
    intro _ _
    intro _ _
    intro _ _
    intro _ _
    intro _ _
    intro u h; obtain rfl := Eq.symm (h (by simp)); clear h
    intro u h; obtain rfl := Eq.symm (h (by simp)); clear h
    intro _ _
    intro _ _
    intro _ _
    intro _ _
    intro _ _
    intro u h; obtain rfl := Eq.symm (h (by simp)); clear h
    intro u h; obtain rfl := Eq.symm (h (by simp)); clear h
    intro _ _
    intro _ _
    intro _ _
    intro _ _
    intro _ _
    intro u h; obtain rfl := Eq.symm (h (by simp)); clear h
    intro u h; obtain rfl := Eq.symm (h (by simp)); clear h
    intro _ _
    intro _ _
    intro _ _
    intro _ _
    intro _ _
    intro u h; obtain rfl := Eq.symm (h (by simp)); clear h
    intro u h; obtain rfl := Eq.symm (h (by simp)); clear h
    intro _ _
    intro _ _
    intro _ _
    intro _ _
    intro _ _
    intro u h; obtain rfl := Eq.symm (h (by simp)); clear h
    intro u h; obtain rfl := Eq.symm (h (by simp)); clear h
    intro _ _
    intro _ _
    intro _ _
    intro _ _
    intro _ _
    intro u h; obtain rfl := Eq.symm (h (by simp)); clear h
    intro u h; obtain rfl := Eq.symm (h (by simp)); clear h
    intro _ _
    intro _ _
    intro _ _
    intro _ _
    intro _ _
    intro u h; obtain rfl := Eq.symm (h (by simp)); clear h
    intro u h; obtain rfl := Eq.symm (h (by simp)); clear h
    intro _ _
    intro _ _
    intro _ _
    intro _ _
    intro _ _
    intro u h; obtain rfl := Eq.symm (h (by simp)); clear h
    intro u h; obtain rfl := Eq.symm (h (by simp)); clear h
    intro _ _
    intro _ _
    intro _ _
    intro _ _
    intro _ _
    intro u h; obtain rfl := Eq.symm (h (by simp)); clear h
    intro u h; obtain rfl := Eq.symm (h (by simp)); clear h
    intro _ _
    intro _ _
    intro _ _
    intro _ _
    intro _ _
    intro u h; obtain rfl := Eq.symm (h (by simp)); clear h
    intro u h; obtain rfl := Eq.symm (h (by simp)); clear h
    intro _ _
    intro _ _
    intro _ _
    intro _ _
    intro _ _
    intro u h; obtain rfl := Eq.symm (h (by simp)); clear h
    intro u h; obtain rfl := Eq.symm (h (by simp)); clear h
    intro _ _
    intro _ _
    intro _ _
    intro _ _
    intro _ _
    intro u h; obtain rfl := Eq.symm (h (by simp)); clear h
    intro u h; obtain rfl := Eq.symm (h (by simp)); clear h
    intro _ _
    intro _ _
    intro _ _
    intro _ _
    intro _ _
    intro u h; obtain rfl := Eq.symm (h (by simp)); clear h
    intro u h; obtain rfl := Eq.symm (h (by simp)); clear h
    intro _ _
    intro _ _
    intro _ _
    intro _ _
    intro _ _
    intro u h; obtain rfl := Eq.symm (h (by simp)); clear h
    intro u h; obtain rfl := Eq.symm (h (by simp)); clear h
    intro _ _
    intro _ _
    intro _ _
    intro _ _
    intro _ _
    intro u h; obtain rfl := Eq.symm (h (by simp)); clear h
    subst Q9_1 Q8_1 Q7_1 Q6_1 Q5_1 Q4_1 Q3_1 Q2_1 Q1_1
    refine relyEnd_nil rfl ?_
    simp only [Act.put, List.setIfInBounds_toArray, List.set_cons_zero, List.set_cons_succ]
    refine wpList_plain rfl (fun K hK => ?_)
    refine opr_move (.inr rfl) (hK _ _ ?_)
    refine wpList_end rfl ?_
    go_simp
    go_wp2
    go_ret
    exact ⟨_, rfl, NewT.trans _ _ _ HN.out hT, rfl⟩
set_option maxHeartbeats 2000000 in
theorem RSame_cv (v1 v2 : Value) (x y : Rc) (w : World) (h1 : RecV w v1 x) (h2 : RecV w v2 y) (hl : x.data.length ≤ 1000000) (hm : y.data.length ≤ 1000000) : Cv 15 #[v1, v2] w (.eq (.bool (sameB x y))) := by
  obtain ⟨sv, dv, rfl, hs, hd⟩ := h1
  obtain ⟨su, du, rfl, hu, he⟩ := h2
  unfold Cv
  go_enter Tryd.func15, Tryd.ntmps15
  go_upto_region 1 with fail
  have r1 := (rowIs_box w 27 109 (recF x sv dv)).alloc (.cells (rowA 109 (recF y su du)) 27)
  have r2 := rowIs_box (w.alloc (.cells (rowA 109 (recF x sv dv)) 27)) 27 109 (recF y su du)
  have hN : NewT w ((w.alloc (.cells (rowA 109 (recF x sv dv)) 27)).alloc (.cells (rowA 109 (recF y su du)) 27)) := NewT.trans _ _ _ (NewT.alloc _ _) (NewT.alloc _ _)
  rw [World.size_alloc] at r2
  change Code.wp _ _ _ _ ((w.alloc (.cells (rowA 109 (recF x sv dv)) 27)).alloc (.cells (rowA 109 (recF y su du)) 27))
  generalize (w.alloc (.cells (rowA 109 (recF x sv dv)) 27)).alloc (.cells (rowA 109 (recF y su du)) 27) = W0 at r1 r2 hN ⊢
  have HS := Lib.hid (hN.pairs hs)
  have HD := Lib.hid (hN.rd hd)
  have HU := Lib.hid (hN.pairs hu)
  have HE := Lib.hid (hN.rd he)
  have R1 := Lib.hid r1
  have R2 := Lib.hid r2
  have HN := Lib.hid hN
  clear hs hd hu he r1 r2 hN
  obtain ⟨q1_1, Q1_1⟩ : ∃ q, ((x.kind == y.kind) && (x.saga == y.saga)) = q := ⟨_, rfl⟩
  obtain ⟨q2_1, Q2_1⟩ : ∃ q, ((q1_1 && (x.seq == y.seq)) && (x.step == y.step)) = q := ⟨_, rfl⟩
  obtain ⟨q3_1, Q3_1⟩ : ∃ q, ((q2_1 && (x.tr == y.tr)) && (x.back == y.back)) = q := ⟨_, rfl⟩
  obtain ⟨q4_1, Q4_1⟩ : ∃ q, ((q3_1 && (x.good == y.good)) && (x.nd == y.nd)) = q := ⟨_, rfl⟩
  obtain ⟨q5_1, Q5_1⟩ : ∃ q, ((q4_1 && (x.part == y.part)) && (x.epoch == y.epoch)) = q := ⟨_, rfl⟩
  obtain ⟨q6_1, Q6_1⟩ : ∃ q, ((q5_1 && (eqH (x.tag) (y.tag))) && (decide (x.steps = y.steps))) = q := ⟨_, rfl⟩
  obtain ⟨q7_1, Q7_1⟩ : ∃ q, (q6_1 && (decide (x.data = y.data))) = q := ⟨_, rfl⟩
  obtain ⟨q8_1, Q8_1⟩ : ∃ q, (q7_1 && (eqH (x.salt) (y.salt))) = q := ⟨_, rfl⟩
  obtain ⟨q9_1, Q9_1⟩ : ∃ q, ((q8_1 && (x.gone == y.gone)) && (eqH (x.com) (y.com))) = q := ⟨_, rfl⟩
  refine wp_region_steps0 NewT [SV.eq (.pointer (some ⟨w.heap.size, 0, none⟩)), SV.eq (.int .i64 (x.kind)), SV.eq (.pointer (some ⟨w.heap.size + 1, 0, none⟩)), SV.eq (.int .i64 (y.kind)), SV.eq (.bool (x.kind == y.kind)), SV.eq (.bool (x.kind == y.kind)), svIf (x.kind == y.kind) (SV.eq (.pointer (some ⟨w.heap.size, 1, none⟩))), svIf (x.kind == y.kind) (SV.eq (.int .i64 (x.saga))), svIf (x.kind == y.kind) (SV.eq (.pointer (some ⟨w.heap.size + 1, 1, none⟩))), svIf (x.kind == y.kind) (SV.eq (.int .i64 (y.saga))), svIf (x.kind == y.kind) (SV.eq (.bool (x.saga == y.saga))), SV.eq (.bool (q1_1)), SV.eq (.bool (q1_1)), svIf q1_1 (SV.eq (.pointer (some ⟨w.heap.size, 2, none⟩))), svIf q1_1 (SV.eq (.int .i64 (x.seq))), svIf q1_1 (SV.eq (.pointer (some ⟨w.heap.size + 1, 2, none⟩))), svIf q1_1 (SV.eq (.int .i64 (y.seq))), svIf q1_1 (SV.eq (.bool (x.seq == y.seq))), SV.eq (.bool (q1_1 && (x.seq == y.seq))), SV.eq (.bool (q1_1 && (x.seq == y.seq))), svIf (q1_1 && (x.seq == y.seq)) (SV.eq (.pointer (some ⟨w.heap.size, 3, none⟩))), svIf (q1_1 && (x.seq == y.seq)) (SV.eq (.int .i64 (x.step))), svIf (q1_1 && (x.seq == y.seq)) (SV.eq (.pointer (some ⟨w.heap.size + 1, 3, none⟩))), svIf (q1_1 && (x.seq == y.seq)) (SV.eq (.int .i64 (y.step))), svIf (q1_1 && (x.seq == y.seq)) (SV.eq (.bool (x.step == y.step))), SV.eq (.bool (q2_1)), SV.eq (.bool (q2_1)), svIf q2_1 (SV.eq (.pointer (some ⟨w.heap.size, 4, none⟩))), svIf q2_1 (SV.eq (.int .i64 (x.tr))), svIf q2_1 (SV.eq (.pointer (some ⟨w.heap.size + 1, 4, none⟩))), svIf q2_1 (SV.eq (.int .i64 (y.tr))), svIf q2_1 (SV.eq (.bool (x.tr == y.tr))), SV.eq (.bool (q2_1 && (x.tr == y.tr))), SV.eq (.bool (q2_1 && (x.tr == y.tr))), svIf (q2_1 && (x.tr == y.tr)) (SV.eq (.pointer (some ⟨w.heap.size, 5, none⟩))), svIf (q2_1 && (x.tr == y.tr)) (SV.eq (.bool (x.back))), svIf (q2_1 && (x.tr == y.tr)) (SV.eq (.pointer (some ⟨w.heap.size + 1, 5, none⟩))), svIf (q2_1 && (x.tr == y.tr)) (SV.eq (.bool (y.back))), svIf (q2_1 && (x.tr == y.tr)) (SV.eq (.bool (x.back == y.back))), SV.eq (.bool (q3_1)), SV.eq (.bool (q3_1)), svIf q3_1 (SV.eq (.pointer (some ⟨w.heap.size, 6, none⟩))), svIf q3_1 (SV.eq (.bool (x.good))), svIf q3_1 (SV.eq (.pointer (some ⟨w.heap.size + 1, 6, none⟩))), svIf q3_1 (SV.eq (.bool (y.good))), svIf q3_1 (SV.eq (.bool (x.good == y.good))), SV.eq (.bool (q3_1 && (x.good == y.good))), SV.eq (.bool (q3_1 && (x.good == y.good))), svIf (q3_1 && (x.good == y.good)) (SV.eq (.pointer (some ⟨w.heap.size, 7, none⟩))), svIf (q3_1 && (x.good == y.good)) (SV.eq (.int .i64 (x.nd))), svIf (q3_1 && (x.good == y.good)) (SV.eq (.pointer (some ⟨w.heap.size + 1, 7, none⟩))), svIf (q3_1 && (x.good == y.good)) (SV.eq (.int .i64 (y.nd))), svIf (q3_1 && (x.good == y.good)) (SV.eq (.bool (x.nd == y.nd))), SV.eq (.bool (q4_1)), SV.eq (.bool (q4_1)), svIf q4_1 (SV.eq (.pointer (some ⟨w.heap.size, 8, none⟩))), svIf q4_1 (SV.eq (.int .i64 (x.part))), svIf q4_1 (SV.eq (.pointer (some ⟨w.heap.size + 1, 8, none⟩))), svIf q4_1 (SV.eq (.int .i64 (y.part))), svIf q4_1 (SV.eq (.bool (x.part == y.part))), SV.eq (.bool (q4_1 && (x.part == y.part))), SV.eq (.bool (q4_1 && (x.part == y.part))), svIf (q4_1 && (x.part == y.part)) (SV.eq (.pointer (some ⟨w.heap.size, 9, none⟩))), svIf (q4_1 && (x.part == y.part)) (SV.eq (.int .i64 (x.epoch))), svIf (q4_1 && (x.part == y.part)) (SV.eq (.pointer (some ⟨w.heap.size + 1, 9, none⟩))), svIf (q4_1 && (x.part == y.part)) (SV.eq (.int .i64 (y.epoch))), svIf (q4_1 && (x.part == y.part)) (SV.eq (.bool (x.epoch == y.epoch))), SV.eq (.bool (q5_1)), SV.eq (.bool (q5_1)), svIf q5_1 (SV.eq (.pointer (some ⟨w.heap.size, 10, none⟩))), svIf q5_1 (SV.eq (.agg (rowA 32 (bF (x.tag))))), svIf q5_1 (SV.eq (.pointer (some ⟨w.heap.size + 1, 10, none⟩))), svIf q5_1 (SV.eq (.agg (rowA 32 (bF (y.tag))))), svIf q5_1 (SV.eq (.bool (eqH (x.tag) (y.tag)))), SV.eq (.bool (q5_1 && (eqH (x.tag) (y.tag)))), SV.eq (.bool (q5_1 && (eqH (x.tag) (y.tag)))), svIf (q5_1 && (eqH (x.tag) (y.tag))) (SV.eq (.pointer (some ⟨w.heap.size, 42, none⟩))), svIf (q5_1 && (eqH (x.tag) (y.tag))) (SV.eq (sv)), svIf (q5_1 && (eqH (x.tag) (y.tag))) (SV.eq (.pointer (some ⟨w.heap.size + 1, 42, none⟩))), svIf (q5_1 && (eqH (x.tag) (y.tag))) (SV.eq (su)), svIf (q5_1 && (eqH (x.tag) (y.tag))) (SV.eq (.bool (decide (x.steps = y.steps)))), SV.eq (.bool (q6_1)), SV.eq (.bool (q6_1)), svIf q6_1 (SV.eq (.pointer (some ⟨w.heap.size, 43, none⟩))), svIf q6_1 (SV.eq (dv)), svIf q6_1 (SV.eq (.pointer (some ⟨w.heap.size + 1, 43, none⟩))), svIf q6_1 (SV.eq (du)), svIf q6_1 (SV.eq (.bool (decide (x.data = y.data)))), SV.eq (.bool (q7_1)), SV.eq (.bool (q7_1)), svIf q7_1 (SV.eq (.pointer (some ⟨w.heap.size, 44, none⟩))), svIf q7_1 (SV.eq (.agg (rowA 32 (bF (x.salt))))), svIf q7_1 (SV.eq (.pointer (some ⟨w.heap.size + 1, 44, none⟩))), svIf q7_1 (SV.eq (.agg (rowA 32 (bF (y.salt))))), svIf q7_1 (SV.eq (.bool (eqH (x.salt) (y.salt)))), SV.eq (.bool (q8_1)), SV.eq (.bool (q8_1)), svIf q8_1 (SV.eq (.pointer (some ⟨w.heap.size, 76, none⟩))), svIf q8_1 (SV.eq (.bool (x.gone))), svIf q8_1 (SV.eq (.pointer (some ⟨w.heap.size + 1, 76, none⟩))), svIf q8_1 (SV.eq (.bool (y.gone))), svIf q8_1 (SV.eq (.bool (x.gone == y.gone))), SV.eq (.bool (q8_1 && (x.gone == y.gone))), SV.eq (.bool (q8_1 && (x.gone == y.gone))), svIf (q8_1 && (x.gone == y.gone)) (SV.eq (.pointer (some ⟨w.heap.size, 77, none⟩))), svIf (q8_1 && (x.gone == y.gone)) (SV.eq (.agg (rowA 32 (bF (x.com))))), svIf (q8_1 && (x.gone == y.gone)) (SV.eq (.pointer (some ⟨w.heap.size + 1, 77, none⟩))), svIf (q8_1 && (x.gone == y.gone)) (SV.eq (.agg (rowA 32 (bF (y.com))))), svIf (q8_1 && (x.gone == y.gone)) (SV.eq (.bool (eqH (x.com) (y.com)))), SV.eq (.bool (q9_1))] [([(2, none)], none), ([(5, some 0)], none), ([(3, none)], none), ([(7, some 2)], none), ([(6, some 1), (8, some 3)], none), ([(9, some 4)], none), ([(2, none), (10, some 5)], some (10, true)), ([(11, some 6), (10, some 5)], some (10, true)), ([(3, none), (10, some 5)], some (10, true)), ([(13, some 8), (10, some 5)], some (10, true)), ([(12, some 7), (14, some 9), (10, some 5)], some (10, true)), ([(10, some 5), (15, some 10)], none), ([(16, some 11)], none), ([(2, none), (17, some 12)], some (17, true)), ([(18, some 13), (17, some 12)], some (17, true)), ([(3, none), (17, some 12)], some (17, true)), ([(20, some 15), (17, some 12)], some (17, true)), ([(19, some 14), (21, some 16), (17, some 12)], some (17, true)), ([(17, some 12), (22, some 17)], none), ([(23, some 18)], none), ([(2, none), (24, some 19)], some (24, true)), ([(25, some 20), (24, some 19)], some (24, true)), ([(3, none), (24, some 19)], some (24, true)), ([(27, some 22), (24, some 19)], some (24, true)), ([(26, some 21), (28, some 23), (24, some 19)], some (24, true)), ([(24, some 19), (29, some 24)], none), ([(30, some 25)], none), ([(2, none), (31, some 26)], some (31, true)), ([(32, some 27), (31, some 26)], some (31, true)), ([(3, none), (31, some 26)], some (31, true)), ([(34, some 29), (31, some 26)], some (31, true)), ([(33, some 28), (35, some 30), (31, some 26)], some (31, true)), ([(31, some 26), (36, some 31)], none), ([(37, some 32)], none), ([(2, none), (38, some 33)], some (38, true)), ([(39, some 34), (38, some 33)], some (38, true)), ([(3, none), (38, some 33)], some (38, true)), ([(41, some 36), (38, some 33)], some (38, true)), ([(40, some 35), (42, some 37), (38, some 33)], some (38, true)), ([(38, some 33), (43, some 38)], none), ([(44, some 39)], none), ([(2, none), (45, some 40)], some (45, true)), ([(46, some 41), (45, some 40)], some (45, true)), ([(3, none), (45, some 40)], some (45, true)), ([(48, some 43), (45, some 40)], some (45, true)), ([(47, some 42), (49, some 44), (45, some 40)], some (45, true)), ([(45, some 40), (50, some 45)], none), ([(51, some 46)], none), ([(2, none), (52, some 47)], some (52, true)), ([(53, some 48), (52, some 47)], some (52, true)), ([(3, none), (52, some 47)], some (52, true)), ([(55, some 50), (52, some 47)], some (52, true)), ([(54, some 49), (56, some 51), (52, some 47)], some (52, true)), ([(52, some 47), (57, some 52)], none), ([(58, some 53)], none), ([(2, none), (59, some 54)], some (59, true)), ([(60, some 55), (59, some 54)], some (59, true)), ([(3, none), (59, some 54)], some (59, true)), ([(62, some 57), (59, some 54)], some (59, true)), ([(61, some 56), (63, some 58), (59, some 54)], some (59, true)), ([(59, some 54), (64, some 59)], none), ([(65, some 60)], none), ([(2, none), (66, some 61)], some (66, true)), ([(67, some 62), (66, some 61)], some (66, true)), ([(3, none), (66, some 61)], some (66, true)), ([(69, some 64), (66, some 61)], some (66, true)), ([(68, some 63), (70, some 65), (66, some 61)], some (66, true)), ([(66, some 61), (71, some 66)], none), ([(72, some 67)], none), ([(2, none), (73, some 68)], some (73, true)), ([(74, some 69), (73, some 68)], some (73, true)), ([(3, none), (73, some 68)], some (73, true)), ([(76, some 71), (73, some 68)], some (73, true)), ([(75, some 70), (77, some 72), (73, some 68)], some (73, true)), ([(73, some 68), (78, some 73)], none), ([(79, some 74)], none), ([(2, none), (80, some 75)], some (80, true)), ([(81, some 76), (80, some 75)], some (80, true)), ([(3, none), (80, some 75)], some (80, true)), ([(83, some 78), (80, some 75)], some (80, true)), ([(82, some 77), (84, some 79), (80, some 75)], some (80, true)), ([(80, some 75), (85, some 80)], none), ([(86, some 81)], none), ([(2, none), (87, some 82)], some (87, true)), ([(88, some 83), (87, some 82)], some (87, true)), ([(3, none), (87, some 82)], some (87, true)), ([(90, some 85), (87, some 82)], some (87, true)), ([(89, some 84), (91, some 86), (87, some 82)], some (87, true)), ([(87, some 82), (92, some 87)], none), ([(93, some 88)], none), ([(2, none), (94, some 89)], some (94, true)), ([(95, some 90), (94, some 89)], some (94, true)), ([(3, none), (94, some 89)], some (94, true)), ([(97, some 92), (94, some 89)], some (94, true)), ([(96, some 91), (98, some 93), (94, some 89)], some (94, true)), ([(94, some 89), (99, some 94)], none), ([(100, some 95)], none), ([(2, none), (101, some 96)], some (101, true)), ([(102, some 97), (101, some 96)], some (101, true)), ([(3, none), (101, some 96)], some (101, true)), ([(104, some 99), (101, some 96)], some (101, true)), ([(103, some 98), (105, some 100), (101, some 96)], some (101, true)), ([(101, some 96), (106, some 101)], none), ([(107, some 102)], none), ([(2, none), (108, some 103)], some (108, true)), ([(109, some 104), (108, some 103)], some (108, true)), ([(3, none), (108, some 103)], some (108, true)), ([(111, some 106), (108, some 103)], some (108, true)), ([(110, some 105), (112, some 107), (108, some 103)], some (108, true)), ([(108, some 103), (113, some 108)], none)] 115 110 rfl rfl (by kernel_rfl) NewT.trans (NewT.refl _) (Nat.le_of_ble_eq_true rfl) ⟨?_, ?_, ?_, ?_, ?_, ?_, ?_, ?_, ?_, ?_, ?_, ?_, ?_, ?_, ?_, ?_, ?_, ?_, ?_, ?_, ?_, ?_, ?_, ?_, ?_, ?_, ?_, ?_, ?_, ?_, ?_, ?_, ?_, ?_, ?_, ?_, ?_, ?_, ?_, ?_, ?_, ?_, ?_, ?_, ?_, ?_, ?_, ?_, ?_, ?_, ?_, ?_, ?_, ?_, ?_, ?_, ?_, ?_, ?_, ?_, ?_, ?_, ?_, ?_, ?_, ?_, ?_, ?_, ?_, ?_, ?_, ?_, ?_, ?_, ?_, ?_, ?_, ?_, ?_, ?_, ?_, ?_, ?_, ?_, ?_, ?_, ?_, ?_, ?_, ?_, ?_, ?_, ?_, ?_, ?_, ?_, ?_, ?_, ?_, ?_, ?_, ?_, ?_, ?_, ?_, ?_, ?_, ?_, ?_, ?_, trivial⟩ ?_
  · intro a wx hT hF K hK
    obtain ⟨f2, _⟩ := hF
    have f2 : a.tmps.getD 2 undef = .pointer (some ⟨w.heap.size, 0, none⟩) := f2
    refine rely_wp rfl ?_
    exact opr_fldR (by decide) rfl f2 (hK _ _ (NewT.refl _) rfl)
  · intro a wx hT hF K hK
    obtain ⟨f5, _⟩ := hF
    have f5 : a.tmps.getD 5 undef = .pointer (some ⟨w.heap.size, 0, none⟩) := f5
    refine rely_wp rfl ?_
    exact opr_ldI (hT.row R1.out) (by decide) rfl rfl f5 (hK _ _ (NewT.refl _) rfl)
  · intro a wx hT hF K hK
    obtain ⟨f3, _⟩ := hF
    have f3 : a.tmps.getD 3 undef = .pointer (some ⟨w.heap.size + 1, 0, none⟩) := f3
    refine rely_wp rfl ?_
    exact opr_fldR (by decide) rfl f3 (hK _ _ (NewT.refl _) rfl)
  · intro a wx hT hF K hK
    obtain ⟨f7, _⟩ := hF
    have f7 : a.tmps.getD 7 undef = .pointer (some ⟨w.heap.size + 1, 0, none⟩) := f7
    refine rely_wp rfl ?_
    exact opr_ldI (hT.row R2.out) (by decide) rfl rfl f7 (hK _ _ (NewT.refl _) rfl)
  · intro a wx hT hF K hK
    obtain ⟨f6, f8, _⟩ := hF
    have f6 : a.tmps.getD 6 undef = .int .i64 (x.kind) := f6
    have f8 : a.tmps.getD 8 undef = .int .i64 (y.kind) := f8
    refine rely_wp rfl ?_
    exact opr_cmp (b := x.kind == y.kind) (.inl ⟨rfl, rfl⟩) Tryd.underlying3 rfl f6 f8 (hK _ _ (NewT.refl _) rfl)
  · intro a wx hT hF K hK
    obtain ⟨f9, _⟩ := hF
    have f9 : a.tmps.getD 9 undef = .bool (x.kind == y.kind) := f9
    refine rely_wp rfl ?_
    exact opr_move (.inl rfl) (hK _ _ (NewT.refl _) f9)
  · intro a wx hT hF K hK
    obtain ⟨f2, f10, _⟩ := hF
    have f2 : a.tmps.getD 2 undef = .pointer (some ⟨w.heap.size, 0, none⟩) := f2
    have f10 : a.tmps.getD 10 undef = .bool (x.kind == y.kind) := f10
    refine rely_if (rely_gt f10) (NewT.refl _) hK (fun hE hK => ?_)
    exact opr_fldR (by decide) rfl f2 (hK _ _ (NewT.refl _) rfl)
  · intro a wx hT hF K hK
    obtain ⟨f11, f10, _⟩ := hF
    have f11 : (x.kind == y.kind) = true → a.tmps.getD 11 undef = .pointer (some ⟨w.heap.size, 1, none⟩) := f11
    have f10 : a.tmps.getD 10 undef = .bool (x.kind == y.kind) := f10
    refine rely_if (rely_gt f10) (NewT.refl _) hK (fun hE hK => ?_)
    exact opr_ldI (hT.row R1.out) (by decide) rfl rfl (f11 hE) (hK _ _ (NewT.refl _) rfl)
  · intro a wx hT hF K hK
    obtain ⟨f3, f10, _⟩ := hF
    have f3 : a.tmps.getD 3 undef = .pointer (some ⟨w.heap.size + 1, 0, none⟩) := f3
    have f10 : a.tmps.getD 10 undef = .bool (x.kind == y.kind) := f10
    refine rely_if (rely_gt f10) (NewT.refl _) hK (fun hE hK => ?_)
    exact opr_fldR (by decide) rfl f3 (hK _ _ (NewT.refl _) rfl)
  · intro a wx hT hF K hK
    obtain ⟨f13, f10, _⟩ := hF
    have f13 : (x.kind == y.kind) = true → a.tmps.getD 13 undef = .pointer (some ⟨w.heap.size + 1, 1, none⟩) := f13
    have f10 : a.tmps.getD 10 undef = .bool (x.kind == y.kind) := f10
    refine rely_if (rely_gt f10) (NewT.refl _) hK (fun hE hK => ?_)
    exact opr_ldI (hT.row R2.out) (by decide) rfl rfl (f13 hE) (hK _ _ (NewT.refl _) rfl)
  · intro a wx hT hF K hK
    obtain ⟨f12, f14, f10, _⟩ := hF
    have f12 : (x.kind == y.kind) = true → a.tmps.getD 12 undef = .int .i64 (x.saga) := f12
    have f14 : (x.kind == y.kind) = true → a.tmps.getD 14 undef = .int .i64 (y.saga) := f14
    have f10 : a.tmps.getD 10 undef = .bool (x.kind == y.kind) := f10
    refine rely_if (rely_gt f10) (NewT.refl _) hK (fun hE hK => ?_)
    exact opr_cmp (b := x.saga == y.saga) (.inl ⟨rfl, rfl⟩) Tryd.underlying3 rfl (f12 hE) (f14 hE) (hK _ _ (NewT.refl _) rfl)
  · intro a wx hT hF K hK
    obtain ⟨f10, f15, _⟩ := hF
    have f10 : a.tmps.getD 10 undef = .bool (x.kind == y.kind) := f10
    have f15 : (x.kind == y.kind) = true → a.tmps.getD 15 undef = .bool (x.saga == y.saga) := f15
    refine rely_wp rfl ?_
    exact opr_pick_b rfl f10 (fun hb => hK _ _ (NewT.refl _) (pn_and1 Q1_1 (f15 hb) hb)) (fun hb => hK _ _ (NewT.refl _) (pn_and0 Q1_1 hb))
  · intro a wx hT hF K hK
    obtain ⟨f16, _⟩ := hF
    have f16 : a.tmps.getD 16 undef = .bool (q1_1) := f16
    refine rely_wp rfl ?_
    exact opr_move (.inl rfl) (hK _ _ (NewT.refl _) f16)
  · intro a wx hT hF K hK
    obtain ⟨f2, f17, _⟩ := hF
    have f2 : a.tmps.getD 2 undef = .pointer (some ⟨w.heap.size, 0, none⟩) := f2
    have f17 : a.tmps.getD 17 undef = .bool (q1_1) := f17
    refine rely_if (rely_gt f17) (NewT.refl _) hK (fun hE hK => ?_)
    exact opr_fldR (by decide) rfl f2 (hK _ _ (NewT.refl _) rfl)
  · intro a wx hT hF K hK
    obtain ⟨f18, f17, _⟩ := hF
    have f18 : q1_1 = true → a.tmps.getD 18 undef = .pointer (some ⟨w.heap.size, 2, none⟩) := f18
    have f17 : a.tmps.getD 17 undef = .bool (q1_1) := f17
    refine rely_if (rely_gt f17) (NewT.refl _) hK (fun hE hK => ?_)
    exact opr_ldI (hT.row R1.out) (by decide) rfl rfl (f18 hE) (hK _ _ (NewT.refl _) rfl)
  · intro a wx hT hF K hK
    obtain ⟨f3, f17, _⟩ := hF
    have f3 : a.tmps.getD 3 undef = .pointer (some ⟨w.heap.size + 1, 0, none⟩) := f3
    have f17 : a.tmps.getD 17 undef = .bool (q1_1) := f17
    refine rely_if (rely_gt f17) (NewT.refl _) hK (fun hE hK => ?_)
    exact opr_fldR (by decide) rfl f3 (hK _ _ (NewT.refl _) rfl)
  · intro a wx hT hF K hK
    obtain ⟨f20, f17, _⟩ := hF
    have f20 : q1_1 = true → a.tmps.getD 20 undef = .pointer (some ⟨w.heap.size + 1, 2, none⟩) := f20
    have f17 : a.tmps.getD 17 undef = .bool (q1_1) := f17
    refine rely_if (rely_gt f17) (NewT.refl _) hK (fun hE hK => ?_)
    exact opr_ldI (hT.row R2.out) (by decide) rfl rfl (f20 hE) (hK _ _ (NewT.refl _) rfl)
  · intro a wx hT hF K hK
    obtain ⟨f19, f21, f17, _⟩ := hF
    have f19 : q1_1 = true → a.tmps.getD 19 undef = .int .i64 (x.seq) := f19
    have f21 : q1_1 = true → a.tmps.getD 21 undef = .int .i64 (y.seq) := f21
    have f17 : a.tmps.getD 17 undef = .bool (q1_1) := f17
    refine rely_if (rely_gt f17) (NewT.refl _) hK (fun hE hK => ?_)
    exact opr_cmp (b := x.seq == y.seq) (.inl ⟨rfl, rfl⟩) Tryd.underlying3 rfl (f19 hE) (f21 hE) (hK _ _ (NewT.refl _) rfl)
  · intro a wx hT hF K hK
    obtain ⟨f17, f22, _⟩ := hF
    have f17 : a.tmps.getD 17 undef = .bool (q1_1) := f17
    have f22 : q1_1 = true → a.tmps.getD 22 undef = .bool (x.seq == y.seq) := f22
    refine rely_wp rfl ?_
    exact opr_pick_b rfl f17 (fun hb => hK _ _ (NewT.refl _) (pk_and1 (f22 hb) hb)) (fun hb => hK _ _ (NewT.refl _) (pk_and0 hb))
  · intro a wx hT hF K hK
    obtain ⟨f23, _⟩ := hF
    have f23 : a.tmps.getD 23 undef = .bool (q1_1 && (x.seq == y.seq)) := f23
    refine rely_wp rfl ?_
    exact opr_move (.inl rfl) (hK _ _ (NewT.refl _) f23)
  · intro a wx hT hF K hK
    obtain ⟨f2, f24, _⟩ := hF
    have f2 : a.tmps.getD 2 undef = .pointer (some ⟨w.heap.size, 0, none⟩) := f2
    have f24 : a.tmps.getD 24 undef = .bool (q1_1 && (x.seq == y.seq)) := f24
    refine rely_if (rely_gt f24) (NewT.refl _) hK (fun hE hK => ?_)
    exact opr_fldR (by decide) rfl f2 (hK _ _ (NewT.refl _) rfl)
  · intro a wx hT hF K hK
    obtain ⟨f25, f24, _⟩ := hF
    have f25 : (q1_1 && (x.seq == y.seq)) = true → a.tmps.getD 25 undef = .pointer (some ⟨w.heap.size, 3, none⟩) := f25
    have f24 : a.tmps.getD 24 undef = .bool (q1_1 && (x.seq == y.seq)) := f24
    refine rely_if (rely_gt f24) (NewT.refl _) hK (fun hE hK => ?_)
    exact opr_ldI (hT.row R1.out) (by decide) rfl rfl (f25 hE) (hK _ _ (NewT.refl _) rfl)
  · intro a wx hT hF K hK
    obtain ⟨f3, f24, _⟩ := hF
    have f3 : a.tmps.getD 3 undef = .pointer (some ⟨w.heap.size + 1, 0, none⟩) := f3
    have f24 : a.tmps.getD 24 undef = .bool (q1_1 && (x.seq == y.seq)) := f24
    refine rely_if (rely_gt f24) (NewT.refl _) hK (fun hE hK => ?_)
    exact opr_fldR (by decide) rfl f3 (hK _ _ (NewT.refl _) rfl)
  · intro a wx hT hF K hK
    obtain ⟨f27, f24, _⟩ := hF
    have f27 : (q1_1 && (x.seq == y.seq)) = true → a.tmps.getD 27 undef = .pointer (some ⟨w.heap.size + 1, 3, none⟩) := f27
    have f24 : a.tmps.getD 24 undef = .bool (q1_1 && (x.seq == y.seq)) := f24
    refine rely_if (rely_gt f24) (NewT.refl _) hK (fun hE hK => ?_)
    exact opr_ldI (hT.row R2.out) (by decide) rfl rfl (f27 hE) (hK _ _ (NewT.refl _) rfl)
  · intro a wx hT hF K hK
    obtain ⟨f26, f28, f24, _⟩ := hF
    have f26 : (q1_1 && (x.seq == y.seq)) = true → a.tmps.getD 26 undef = .int .i64 (x.step) := f26
    have f28 : (q1_1 && (x.seq == y.seq)) = true → a.tmps.getD 28 undef = .int .i64 (y.step) := f28
    have f24 : a.tmps.getD 24 undef = .bool (q1_1 && (x.seq == y.seq)) := f24
    refine rely_if (rely_gt f24) (NewT.refl _) hK (fun hE hK => ?_)
    exact opr_cmp (b := x.step == y.step) (.inl ⟨rfl, rfl⟩) Tryd.underlying3 rfl (f26 hE) (f28 hE) (hK _ _ (NewT.refl _) rfl)
  · intro a wx hT hF K hK
    obtain ⟨f24, f29, _⟩ := hF
    have f24 : a.tmps.getD 24 undef = .bool (q1_1 && (x.seq == y.seq)) := f24
    have f29 : (q1_1 && (x.seq == y.seq)) = true → a.tmps.getD 29 undef = .bool (x.step == y.step) := f29
    refine rely_wp rfl ?_
    exact opr_pick_b rfl f24 (fun hb => hK _ _ (NewT.refl _) (pn_and1 Q2_1 (f29 hb) hb)) (fun hb => hK _ _ (NewT.refl _) (pn_and0 Q2_1 hb))
  · intro a wx hT hF K hK
    obtain ⟨f30, _⟩ := hF
    have f30 : a.tmps.getD 30 undef = .bool (q2_1) := f30
    refine rely_wp rfl ?_
    exact opr_move (.inl rfl) (hK _ _ (NewT.refl _) f30)
  · intro a wx hT hF K hK
    obtain ⟨f2, f31, _⟩ := hF
    have f2 : a.tmps.getD 2 undef = .pointer (some ⟨w.heap.size, 0, none⟩) := f2
    have f31 : a.tmps.getD 31 undef = .bool (q2_1) := f31
    refine rely_if (rely_gt f31) (NewT.refl _) hK (fun hE hK => ?_)
    exact opr_fldR (by decide) rfl f2 (hK _ _ (NewT.refl _) rfl)
  · intro a wx hT hF K hK
    obtain ⟨f32, f31, _⟩ := hF
    have f32 : q2_1 = true → a.tmps.getD 32 undef = .pointer (some ⟨w.heap.size, 4, none⟩) := f32
    have f31 : a.tmps.getD 31 undef = .bool (q2_1) := f31
    refine rely_if (rely_gt f31) (NewT.refl _) hK (fun hE hK => ?_)
    exact opr_ldI (hT.row R1.out) (by decide) rfl rfl (f32 hE) (hK _ _ (NewT.refl _) rfl)
  · intro a wx hT hF K hK
    obtain ⟨f3, f31, _⟩ := hF
    have f3 : a.tmps.getD 3 undef = .pointer (some ⟨w.heap.size + 1, 0, none⟩) := f3
    have f31 : a.tmps.getD 31 undef = .bool (q2_1) := f31
    refine rely_if (rely_gt f31) (NewT.refl _) hK (fun hE hK => ?_)
    exact opr_fldR (by decide) rfl f3 (hK _ _ (NewT.refl _) rfl)
  · intro a wx hT hF K hK
    obtain ⟨f34, f31, _⟩ := hF
    have f34 : q2_1 = true → a.tmps.getD 34 undef = .pointer (some ⟨w.heap.size + 1, 4, none⟩) := f34
    have f31 : a.tmps.getD 31 undef = .bool (q2_1) := f31
    refine rely_if (rely_gt f31) (NewT.refl _) hK (fun hE hK => ?_)
    exact opr_ldI (hT.row R2.out) (by decide) rfl rfl (f34 hE) (hK _ _ (NewT.refl _) rfl)
  · intro a wx hT hF K hK
    obtain ⟨f33, f35, f31, _⟩ := hF
    have f33 : q2_1 = true → a.tmps.getD 33 undef = .int .i64 (x.tr) := f33
    have f35 : q2_1 = true → a.tmps.getD 35 undef = .int .i64 (y.tr) := f35
    have f31 : a.tmps.getD 31 undef = .bool (q2_1) := f31
    refine rely_if (rely_gt f31) (NewT.refl _) hK (fun hE hK => ?_)
    exact opr_cmp (b := x.tr == y.tr) (.inl ⟨rfl, rfl⟩) Tryd.underlying3 rfl (f33 hE) (f35 hE) (hK _ _ (NewT.refl _) rfl)
  · intro a wx hT hF K hK
    obtain ⟨f31, f36, _⟩ := hF
    have f31 : a.tmps.getD 31 undef = .bool (q2_1) := f31
    have f36 : q2_1 = true → a.tmps.getD 36 undef = .bool (x.tr == y.tr) := f36
    refine rely_wp rfl ?_
    exact opr_pick_b rfl f31 (fun hb => hK _ _ (NewT.refl _) (pk_and1 (f36 hb) hb)) (fun hb => hK _ _ (NewT.refl _) (pk_and0 hb))
  · intro a wx hT hF K hK
    obtain ⟨f37, _⟩ := hF
    have f37 : a.tmps.getD 37 undef = .bool (q2_1 && (x.tr == y.tr)) := f37
    refine rely_wp rfl ?_
    exact opr_move (.inl rfl) (hK _ _ (NewT.refl _) f37)
  · intro a wx hT hF K hK
    obtain ⟨f2, f38, _⟩ := hF
    have f2 : a.tmps.getD 2 undef = .pointer (some ⟨w.heap.size, 0, none⟩) := f2
    have f38 : a.tmps.getD 38 undef = .bool (q2_1 && (x.tr == y.tr)) := f38
    refine rely_if (rely_gt f38) (NewT.refl _) hK (fun hE hK => ?_)
    exact opr_fldR (by decide) rfl f2 (hK _ _ (NewT.refl _) rfl)
  · intro a wx hT hF K hK
    obtain ⟨f39, f38, _⟩ := hF
    have f39 : (q2_1 && (x.tr == y.tr)) = true → a.tmps.getD 39 undef = .pointer (some ⟨w.heap.size, 5, none⟩) := f39
    have f38 : a.tmps.getD 38 undef = .bool (q2_1 && (x.tr == y.tr)) := f38
    refine rely_if (rely_gt f38) (NewT.refl _) hK (fun hE hK => ?_)
    exact opr_ldQ (hT.row R1.out) (by decide) rfl rfl (f39 hE) (hK _ _ (NewT.refl _) rfl)
  · intro a wx hT hF K hK
    obtain ⟨f3, f38, _⟩ := hF
    have f3 : a.tmps.getD 3 undef = .pointer (some ⟨w.heap.size + 1, 0, none⟩) := f3
    have f38 : a.tmps.getD 38 undef = .bool (q2_1 && (x.tr == y.tr)) := f38
    refine rely_if (rely_gt f38) (NewT.refl _) hK (fun hE hK => ?_)
    exact opr_fldR (by decide) rfl f3 (hK _ _ (NewT.refl _) rfl)
  · intro a wx hT hF K hK
    obtain ⟨f41, f38, _⟩ := hF
    have f41 : (q2_1 && (x.tr == y.tr)) = true → a.tmps.getD 41 undef = .pointer (some ⟨w.heap.size + 1, 5, none⟩) := f41
    have f38 : a.tmps.getD 38 undef = .bool (q2_1 && (x.tr == y.tr)) := f38
    refine rely_if (rely_gt f38) (NewT.refl _) hK (fun hE hK => ?_)
    exact opr_ldQ (hT.row R2.out) (by decide) rfl rfl (f41 hE) (hK _ _ (NewT.refl _) rfl)
  · intro a wx hT hF K hK
    obtain ⟨f40, f42, f38, _⟩ := hF
    have f40 : (q2_1 && (x.tr == y.tr)) = true → a.tmps.getD 40 undef = .bool (x.back) := f40
    have f42 : (q2_1 && (x.tr == y.tr)) = true → a.tmps.getD 42 undef = .bool (y.back) := f42
    have f38 : a.tmps.getD 38 undef = .bool (q2_1 && (x.tr == y.tr)) := f38
    refine rely_if (rely_gt f38) (NewT.refl _) hK (fun hE hK => ?_)
    exact opr_eqlQ (b := x.back == y.back) (rfl) rfl (f40 hE) (f42 hE) (hK _ _ (NewT.refl _) rfl)
  · intro a wx hT hF K hK
    obtain ⟨f38, f43, _⟩ := hF
    have f38 : a.tmps.getD 38 undef = .bool (q2_1 && (x.tr == y.tr)) := f38
    have f43 : (q2_1 && (x.tr == y.tr)) = true → a.tmps.getD 43 undef = .bool (x.back == y.back) := f43
    refine rely_wp rfl ?_
    exact opr_pick_b rfl f38 (fun hb => hK _ _ (NewT.refl _) (pn_and1 Q3_1 (f43 hb) hb)) (fun hb => hK _ _ (NewT.refl _) (pn_and0 Q3_1 hb))
  · intro a wx hT hF K hK
    obtain ⟨f44, _⟩ := hF
    have f44 : a.tmps.getD 44 undef = .bool (q3_1) := f44
    refine rely_wp rfl ?_
    exact opr_move (.inl rfl) (hK _ _ (NewT.refl _) f44)
  · intro a wx hT hF K hK
    obtain ⟨f2, f45, _⟩ := hF
    have f2 : a.tmps.getD 2 undef = .pointer (some ⟨w.heap.size, 0, none⟩) := f2
    have f45 : a.tmps.getD 45 undef = .bool (q3_1) := f45
    refine rely_if (rely_gt f45) (NewT.refl _) hK (fun hE hK => ?_)
    exact opr_fldR (by decide) rfl f2 (hK _ _ (NewT.refl _) rfl)
  · intro a wx hT hF K hK
    obtain ⟨f46, f45, _⟩ := hF
    have f46 : q3_1 = true → a.tmps.getD 46 undef = .pointer (some ⟨w.heap.size, 6, none⟩) := f46
    have f45 : a.tmps.getD 45 undef = .bool (q3_1) := f45
    refine rely_if (rely_gt f45) (NewT.refl _) hK (fun hE hK => ?_)
    exact opr_ldQ (hT.row R1.out) (by decide) rfl rfl (f46 hE) (hK _ _ (NewT.refl _) rfl)
  · intro a wx hT hF K hK
    obtain ⟨f3, f45, _⟩ := hF
    have f3 : a.tmps.getD 3 undef = .pointer (some ⟨w.heap.size + 1, 0, none⟩) := f3
    have f45 : a.tmps.getD 45 undef = .bool (q3_1) := f45
    refine rely_if (rely_gt f45) (NewT.refl _) hK (fun hE hK => ?_)
    exact opr_fldR (by decide) rfl f3 (hK _ _ (NewT.refl _) rfl)
  · intro a wx hT hF K hK
    obtain ⟨f48, f45, _⟩ := hF
    have f48 : q3_1 = true → a.tmps.getD 48 undef = .pointer (some ⟨w.heap.size + 1, 6, none⟩) := f48
    have f45 : a.tmps.getD 45 undef = .bool (q3_1) := f45
    refine rely_if (rely_gt f45) (NewT.refl _) hK (fun hE hK => ?_)
    exact opr_ldQ (hT.row R2.out) (by decide) rfl rfl (f48 hE) (hK _ _ (NewT.refl _) rfl)
  · intro a wx hT hF K hK
    obtain ⟨f47, f49, f45, _⟩ := hF
    have f47 : q3_1 = true → a.tmps.getD 47 undef = .bool (x.good) := f47
    have f49 : q3_1 = true → a.tmps.getD 49 undef = .bool (y.good) := f49
    have f45 : a.tmps.getD 45 undef = .bool (q3_1) := f45
    refine rely_if (rely_gt f45) (NewT.refl _) hK (fun hE hK => ?_)
    exact opr_eqlQ (b := x.good == y.good) (rfl) rfl (f47 hE) (f49 hE) (hK _ _ (NewT.refl _) rfl)
  · intro a wx hT hF K hK
    obtain ⟨f45, f50, _⟩ := hF
    have f45 : a.tmps.getD 45 undef = .bool (q3_1) := f45
    have f50 : q3_1 = true → a.tmps.getD 50 undef = .bool (x.good == y.good) := f50
    refine rely_wp rfl ?_
    exact opr_pick_b rfl f45 (fun hb => hK _ _ (NewT.refl _) (pk_and1 (f50 hb) hb)) (fun hb => hK _ _ (NewT.refl _) (pk_and0 hb))
  · intro a wx hT hF K hK
    obtain ⟨f51, _⟩ := hF
    have f51 : a.tmps.getD 51 undef = .bool (q3_1 && (x.good == y.good)) := f51
    refine rely_wp rfl ?_
    exact opr_move (.inl rfl) (hK _ _ (NewT.refl _) f51)
  · intro a wx hT hF K hK
    obtain ⟨f2, f52, _⟩ := hF
    have f2 : a.tmps.getD 2 undef = .pointer (some ⟨w.heap.size, 0, none⟩) := f2
    have f52 : a.tmps.getD 52 undef = .bool (q3_1 && (x.good == y.good)) := f52
    refine rely_if (rely_gt f52) (NewT.refl _) hK (fun hE hK => ?_)
    exact opr_fldR (by decide) rfl f2 (hK _ _ (NewT.refl _) rfl)
  · intro a wx hT hF K hK
    obtain ⟨f53, f52, _⟩ := hF
    have f53 : (q3_1 && (x.good == y.good)) = true → a.tmps.getD 53 undef = .pointer (some ⟨w.heap.size, 7, none⟩) := f53
    have f52 : a.tmps.getD 52 undef = .bool (q3_1 && (x.good == y.good)) := f52
    refine rely_if (rely_gt f52) (NewT.refl _) hK (fun hE hK => ?_)
    exact opr_ldI (hT.row R1.out) (by decide) rfl rfl (f53 hE) (hK _ _ (NewT.refl _) rfl)
  · intro a wx hT hF K hK
    obtain ⟨f3, f52, _⟩ := hF
    have f3 : a.tmps.getD 3 undef = .pointer (some ⟨w.heap.size + 1, 0, none⟩) := f3
    have f52 : a.tmps.getD 52 undef = .bool (q3_1 && (x.good == y.good)) := f52
    refine rely_if (rely_gt f52) (NewT.refl _) hK (fun hE hK => ?_)
    exact opr_fldR (by decide) rfl f3 (hK _ _ (NewT.refl _) rfl)
  · intro a wx hT hF K hK
    obtain ⟨f55, f52, _⟩ := hF
    have f55 : (q3_1 && (x.good == y.good)) = true → a.tmps.getD 55 undef = .pointer (some ⟨w.heap.size + 1, 7, none⟩) := f55
    have f52 : a.tmps.getD 52 undef = .bool (q3_1 && (x.good == y.good)) := f52
    refine rely_if (rely_gt f52) (NewT.refl _) hK (fun hE hK => ?_)
    exact opr_ldI (hT.row R2.out) (by decide) rfl rfl (f55 hE) (hK _ _ (NewT.refl _) rfl)
  · intro a wx hT hF K hK
    obtain ⟨f54, f56, f52, _⟩ := hF
    have f54 : (q3_1 && (x.good == y.good)) = true → a.tmps.getD 54 undef = .int .i64 (x.nd) := f54
    have f56 : (q3_1 && (x.good == y.good)) = true → a.tmps.getD 56 undef = .int .i64 (y.nd) := f56
    have f52 : a.tmps.getD 52 undef = .bool (q3_1 && (x.good == y.good)) := f52
    refine rely_if (rely_gt f52) (NewT.refl _) hK (fun hE hK => ?_)
    exact opr_cmp (b := x.nd == y.nd) (.inl ⟨rfl, rfl⟩) Tryd.underlying3 rfl (f54 hE) (f56 hE) (hK _ _ (NewT.refl _) rfl)
  · intro a wx hT hF K hK
    obtain ⟨f52, f57, _⟩ := hF
    have f52 : a.tmps.getD 52 undef = .bool (q3_1 && (x.good == y.good)) := f52
    have f57 : (q3_1 && (x.good == y.good)) = true → a.tmps.getD 57 undef = .bool (x.nd == y.nd) := f57
    refine rely_wp rfl ?_
    exact opr_pick_b rfl f52 (fun hb => hK _ _ (NewT.refl _) (pn_and1 Q4_1 (f57 hb) hb)) (fun hb => hK _ _ (NewT.refl _) (pn_and0 Q4_1 hb))
  · intro a wx hT hF K hK
    obtain ⟨f58, _⟩ := hF
    have f58 : a.tmps.getD 58 undef = .bool (q4_1) := f58
    refine rely_wp rfl ?_
    exact opr_move (.inl rfl) (hK _ _ (NewT.refl _) f58)
  · intro a wx hT hF K hK
    obtain ⟨f2, f59, _⟩ := hF
    have f2 : a.tmps.getD 2 undef = .pointer (some ⟨w.heap.size, 0, none⟩) := f2
    have f59 : a.tmps.getD 59 undef = .bool (q4_1) := f59
    refine rely_if (rely_gt f59) (NewT.refl _) hK (fun hE hK => ?_)
    exact opr_fldR (by decide) rfl f2 (hK _ _ (NewT.refl _) rfl)
  · intro a wx hT hF K hK
    obtain ⟨f60, f59, _⟩ := hF
    have f60 : q4_1 = true → a.tmps.getD 60 undef = .pointer (some ⟨w.heap.size, 8, none⟩) := f60
    have f59 : a.tmps.getD 59 undef = .bool (q4_1) := f59
    refine rely_if (rely_gt f59) (NewT.refl _) hK (fun hE hK => ?_)
    exact opr_ldI (hT.row R1.out) (by decide) rfl rfl (f60 hE) (hK _ _ (NewT.refl _) rfl)
  · intro a wx hT hF K hK
    obtain ⟨f3, f59, _⟩ := hF
    have f3 : a.tmps.getD 3 undef = .pointer (some ⟨w.heap.size + 1, 0, none⟩) := f3
    have f59 : a.tmps.getD 59 undef = .bool (q4_1) := f59
    refine rely_if (rely_gt f59) (NewT.refl _) hK (fun hE hK => ?_)
    exact opr_fldR (by decide) rfl f3 (hK _ _ (NewT.refl _) rfl)
  · intro a wx hT hF K hK
    obtain ⟨f62, f59, _⟩ := hF
    have f62 : q4_1 = true → a.tmps.getD 62 undef = .pointer (some ⟨w.heap.size + 1, 8, none⟩) := f62
    have f59 : a.tmps.getD 59 undef = .bool (q4_1) := f59
    refine rely_if (rely_gt f59) (NewT.refl _) hK (fun hE hK => ?_)
    exact opr_ldI (hT.row R2.out) (by decide) rfl rfl (f62 hE) (hK _ _ (NewT.refl _) rfl)
  · intro a wx hT hF K hK
    obtain ⟨f61, f63, f59, _⟩ := hF
    have f61 : q4_1 = true → a.tmps.getD 61 undef = .int .i64 (x.part) := f61
    have f63 : q4_1 = true → a.tmps.getD 63 undef = .int .i64 (y.part) := f63
    have f59 : a.tmps.getD 59 undef = .bool (q4_1) := f59
    refine rely_if (rely_gt f59) (NewT.refl _) hK (fun hE hK => ?_)
    exact opr_cmp (b := x.part == y.part) (.inl ⟨rfl, rfl⟩) Tryd.underlying3 rfl (f61 hE) (f63 hE) (hK _ _ (NewT.refl _) rfl)
  · intro a wx hT hF K hK
    obtain ⟨f59, f64, _⟩ := hF
    have f59 : a.tmps.getD 59 undef = .bool (q4_1) := f59
    have f64 : q4_1 = true → a.tmps.getD 64 undef = .bool (x.part == y.part) := f64
    refine rely_wp rfl ?_
    exact opr_pick_b rfl f59 (fun hb => hK _ _ (NewT.refl _) (pk_and1 (f64 hb) hb)) (fun hb => hK _ _ (NewT.refl _) (pk_and0 hb))
  · intro a wx hT hF K hK
    obtain ⟨f65, _⟩ := hF
    have f65 : a.tmps.getD 65 undef = .bool (q4_1 && (x.part == y.part)) := f65
    refine rely_wp rfl ?_
    exact opr_move (.inl rfl) (hK _ _ (NewT.refl _) f65)
  · intro a wx hT hF K hK
    obtain ⟨f2, f66, _⟩ := hF
    have f2 : a.tmps.getD 2 undef = .pointer (some ⟨w.heap.size, 0, none⟩) := f2
    have f66 : a.tmps.getD 66 undef = .bool (q4_1 && (x.part == y.part)) := f66
    refine rely_if (rely_gt f66) (NewT.refl _) hK (fun hE hK => ?_)
    exact opr_fldR (by decide) rfl f2 (hK _ _ (NewT.refl _) rfl)
  · intro a wx hT hF K hK
    obtain ⟨f67, f66, _⟩ := hF
    have f67 : (q4_1 && (x.part == y.part)) = true → a.tmps.getD 67 undef = .pointer (some ⟨w.heap.size, 9, none⟩) := f67
    have f66 : a.tmps.getD 66 undef = .bool (q4_1 && (x.part == y.part)) := f66
    refine rely_if (rely_gt f66) (NewT.refl _) hK (fun hE hK => ?_)
    exact opr_ldI (hT.row R1.out) (by decide) rfl rfl (f67 hE) (hK _ _ (NewT.refl _) rfl)
  · intro a wx hT hF K hK
    obtain ⟨f3, f66, _⟩ := hF
    have f3 : a.tmps.getD 3 undef = .pointer (some ⟨w.heap.size + 1, 0, none⟩) := f3
    have f66 : a.tmps.getD 66 undef = .bool (q4_1 && (x.part == y.part)) := f66
    refine rely_if (rely_gt f66) (NewT.refl _) hK (fun hE hK => ?_)
    exact opr_fldR (by decide) rfl f3 (hK _ _ (NewT.refl _) rfl)
  · intro a wx hT hF K hK
    obtain ⟨f69, f66, _⟩ := hF
    have f69 : (q4_1 && (x.part == y.part)) = true → a.tmps.getD 69 undef = .pointer (some ⟨w.heap.size + 1, 9, none⟩) := f69
    have f66 : a.tmps.getD 66 undef = .bool (q4_1 && (x.part == y.part)) := f66
    refine rely_if (rely_gt f66) (NewT.refl _) hK (fun hE hK => ?_)
    exact opr_ldI (hT.row R2.out) (by decide) rfl rfl (f69 hE) (hK _ _ (NewT.refl _) rfl)
  · intro a wx hT hF K hK
    obtain ⟨f68, f70, f66, _⟩ := hF
    have f68 : (q4_1 && (x.part == y.part)) = true → a.tmps.getD 68 undef = .int .i64 (x.epoch) := f68
    have f70 : (q4_1 && (x.part == y.part)) = true → a.tmps.getD 70 undef = .int .i64 (y.epoch) := f70
    have f66 : a.tmps.getD 66 undef = .bool (q4_1 && (x.part == y.part)) := f66
    refine rely_if (rely_gt f66) (NewT.refl _) hK (fun hE hK => ?_)
    exact opr_cmp (b := x.epoch == y.epoch) (.inl ⟨rfl, rfl⟩) Tryd.underlying3 rfl (f68 hE) (f70 hE) (hK _ _ (NewT.refl _) rfl)
  · intro a wx hT hF K hK
    obtain ⟨f66, f71, _⟩ := hF
    have f66 : a.tmps.getD 66 undef = .bool (q4_1 && (x.part == y.part)) := f66
    have f71 : (q4_1 && (x.part == y.part)) = true → a.tmps.getD 71 undef = .bool (x.epoch == y.epoch) := f71
    refine rely_wp rfl ?_
    exact opr_pick_b rfl f66 (fun hb => hK _ _ (NewT.refl _) (pn_and1 Q5_1 (f71 hb) hb)) (fun hb => hK _ _ (NewT.refl _) (pn_and0 Q5_1 hb))
  · intro a wx hT hF K hK
    obtain ⟨f72, _⟩ := hF
    have f72 : a.tmps.getD 72 undef = .bool (q5_1) := f72
    refine rely_wp rfl ?_
    exact opr_move (.inl rfl) (hK _ _ (NewT.refl _) f72)
  · intro a wx hT hF K hK
    obtain ⟨f2, f73, _⟩ := hF
    have f2 : a.tmps.getD 2 undef = .pointer (some ⟨w.heap.size, 0, none⟩) := f2
    have f73 : a.tmps.getD 73 undef = .bool (q5_1) := f73
    refine rely_if (rely_gt f73) (NewT.refl _) hK (fun hE hK => ?_)
    exact opr_fldR (by decide) rfl f2 (hK _ _ (NewT.refl _) rfl)
  · intro a wx hT hF K hK
    obtain ⟨f74, f73, _⟩ := hF
    have f74 : q5_1 = true → a.tmps.getD 74 undef = .pointer (some ⟨w.heap.size, 10, none⟩) := f74
    have f73 : a.tmps.getD 73 undef = .bool (q5_1) := f73
    refine rely_if (rely_gt f73) (NewT.refl _) hK (fun hE hK => ?_)
    exact opr_ldH (hT.row R1.out) (by decide) (recF_tag x _ _) rfl (f74 hE) (hK _ _ (NewT.refl _) rfl)
  · intro a wx hT hF K hK
    obtain ⟨f3, f73, _⟩ := hF
    have f3 : a.tmps.getD 3 undef = .pointer (some ⟨w.heap.size + 1, 0, none⟩) := f3
    have f73 : a.tmps.getD 73 undef = .bool (q5_1) := f73
    refine rely_if (rely_gt f73) (NewT.refl _) hK (fun hE hK => ?_)
    exact opr_fldR (by decide) rfl f3 (hK _ _ (NewT.refl _) rfl)
  · intro a wx hT hF K hK
    obtain ⟨f76, f73, _⟩ := hF
    have f76 : q5_1 = true → a.tmps.getD 76 undef = .pointer (some ⟨w.heap.size + 1, 10, none⟩) := f76
    have f73 : a.tmps.getD 73 undef = .bool (q5_1) := f73
    refine rely_if (rely_gt f73) (NewT.refl _) hK (fun hE hK => ?_)
    exact opr_ldH (hT.row R2.out) (by decide) (recF_tag y _ _) rfl (f76 hE) (hK _ _ (NewT.refl _) rfl)
  · intro a wx hT hF K hK
    obtain ⟨f75, f77, f73, _⟩ := hF
    have f75 : q5_1 = true → a.tmps.getD 75 undef = .agg (rowA 32 (bF (x.tag))) := f75
    have f77 : q5_1 = true → a.tmps.getD 77 undef = .agg (rowA 32 (bF (y.tag))) := f77
    have f73 : a.tmps.getD 73 undef = .bool (q5_1) := f73
    refine rely_if (rely_gt f73) (NewT.refl _) hK (fun hE hK => ?_)
    exact opr_eql_hash (b := eqH (x.tag) (y.tag)) rfl (f75 hE) (f77 hE) (rfl) (hK _ _ (NewT.refl _) rfl)
  · intro a wx hT hF K hK
    obtain ⟨f73, f78, _⟩ := hF
    have f73 : a.tmps.getD 73 undef = .bool (q5_1) := f73
    have f78 : q5_1 = true → a.tmps.getD 78 undef = .bool (eqH (x.tag) (y.tag)) := f78
    refine rely_wp rfl ?_
    exact opr_pick_b rfl f73 (fun hb => hK _ _ (NewT.refl _) (pk_and1 (f78 hb) hb)) (fun hb => hK _ _ (NewT.refl _) (pk_and0 hb))
  · intro a wx hT hF K hK
    obtain ⟨f79, _⟩ := hF
    have f79 : a.tmps.getD 79 undef = .bool (q5_1 && (eqH (x.tag) (y.tag))) := f79
    refine rely_wp rfl ?_
    exact opr_move (.inl rfl) (hK _ _ (NewT.refl _) f79)
  · intro a wx hT hF K hK
    obtain ⟨f2, f80, _⟩ := hF
    have f2 : a.tmps.getD 2 undef = .pointer (some ⟨w.heap.size, 0, none⟩) := f2
    have f80 : a.tmps.getD 80 undef = .bool (q5_1 && (eqH (x.tag) (y.tag))) := f80
    refine rely_if (rely_gt f80) (NewT.refl _) hK (fun hE hK => ?_)
    exact opr_fldR (by decide) rfl f2 (hK _ _ (NewT.refl _) rfl)
  · intro a wx hT hF K hK
    obtain ⟨f81, f80, _⟩ := hF
    have f81 : (q5_1 && (eqH (x.tag) (y.tag))) = true → a.tmps.getD 81 undef = .pointer (some ⟨w.heap.size, 42, none⟩) := f81
    have f80 : a.tmps.getD 80 undef = .bool (q5_1 && (eqH (x.tag) (y.tag))) := f80
    refine rely_if (rely_gt f80) (NewT.refl _) hK (fun hE hK => ?_)
    exact opr_ldS (hT.row R1.out) (by decide) rfl rfl (f81 hE) (hK _ _ (NewT.refl _) rfl)
  · intro a wx hT hF K hK
    obtain ⟨f3, f80, _⟩ := hF
    have f3 : a.tmps.getD 3 undef = .pointer (some ⟨w.heap.size + 1, 0, none⟩) := f3
    have f80 : a.tmps.getD 80 undef = .bool (q5_1 && (eqH (x.tag) (y.tag))) := f80
    refine rely_if (rely_gt f80) (NewT.refl _) hK (fun hE hK => ?_)
    exact opr_fldR (by decide) rfl f3 (hK _ _ (NewT.refl _) rfl)
  · intro a wx hT hF K hK
    obtain ⟨f83, f80, _⟩ := hF
    have f83 : (q5_1 && (eqH (x.tag) (y.tag))) = true → a.tmps.getD 83 undef = .pointer (some ⟨w.heap.size + 1, 42, none⟩) := f83
    have f80 : a.tmps.getD 80 undef = .bool (q5_1 && (eqH (x.tag) (y.tag))) := f80
    refine rely_if (rely_gt f80) (NewT.refl _) hK (fun hE hK => ?_)
    exact opr_ldS (hT.row R2.out) (by decide) rfl rfl (f83 hE) (hK _ _ (NewT.refl _) rfl)
  · intro a wx hT hF K hK
    obtain ⟨f82, f84, f80, _⟩ := hF
    have f82 : (q5_1 && (eqH (x.tag) (y.tag))) = true → a.tmps.getD 82 undef = sv := f82
    have f84 : (q5_1 && (eqH (x.tag) (y.tag))) = true → a.tmps.getD 84 undef = su := f84
    have f80 : a.tmps.getD 80 undef = .bool (q5_1 && (eqH (x.tag) (y.tag))) := f80
    refine rely_if (rely_gt f80) (NewT.refl _) hK (fun hE hK => ?_)
    exact opr_cv (RSteps_cv _ _ x.steps y.steps wx (hT.pairs HS.out) (hT.pairs HU.out)) rfl Tryd.func33 (by kernel_rfl) (by kernel_rfl) (by simp only [List.map_toArray, List.map_cons, List.map_nil, eval_tmp, (f82 hE), (f84 hE)]) hK
  · intro a wx hT hF K hK
    obtain ⟨f80, f85, _⟩ := hF
    have f80 : a.tmps.getD 80 undef = .bool (q5_1 && (eqH (x.tag) (y.tag))) := f80
    have f85 : (q5_1 && (eqH (x.tag) (y.tag))) = true → a.tmps.getD 85 undef = .bool (decide (x.steps = y.steps)) := f85
    refine rely_wp rfl ?_
    exact opr_pick_b rfl f80 (fun hb => hK _ _ (NewT.refl _) (pn_and1 Q6_1 (f85 hb) hb)) (fun hb => hK _ _ (NewT.refl _) (pn_and0 Q6_1 hb))
  · intro a wx hT hF K hK
    obtain ⟨f86, _⟩ := hF
    have f86 : a.tmps.getD 86 undef = .bool (q6_1) := f86
    refine rely_wp rfl ?_
    exact opr_move (.inl rfl) (hK _ _ (NewT.refl _) f86)
  · intro a wx hT hF K hK
    obtain ⟨f2, f87, _⟩ := hF
    have f2 : a.tmps.getD 2 undef = .pointer (some ⟨w.heap.size, 0, none⟩) := f2
    have f87 : a.tmps.getD 87 undef = .bool (q6_1) := f87
    refine rely_if (rely_gt f87) (NewT.refl _) hK (fun hE hK => ?_)
    exact opr_fldR (by decide) rfl f2 (hK _ _ (NewT.refl _) rfl)
  · intro a wx hT hF K hK
    obtain ⟨f88, f87, _⟩ := hF
    have f88 : q6_1 = true → a.tmps.getD 88 undef = .pointer (some ⟨w.heap.size, 43, none⟩) := f88
    have f87 : a.tmps.getD 87 undef = .bool (q6_1) := f87
    refine rely_if (rely_gt f87) (NewT.refl _) hK (fun hE hK => ?_)
    exact opr_ldB (hT.row R1.out) (by decide) rfl rfl (f88 hE) (hK _ _ (NewT.refl _) rfl)
  · intro a wx hT hF K hK
    obtain ⟨f3, f87, _⟩ := hF
    have f3 : a.tmps.getD 3 undef = .pointer (some ⟨w.heap.size + 1, 0, none⟩) := f3
    have f87 : a.tmps.getD 87 undef = .bool (q6_1) := f87
    refine rely_if (rely_gt f87) (NewT.refl _) hK (fun hE hK => ?_)
    exact opr_fldR (by decide) rfl f3 (hK _ _ (NewT.refl _) rfl)
  · intro a wx hT hF K hK
    obtain ⟨f90, f87, _⟩ := hF
    have f90 : q6_1 = true → a.tmps.getD 90 undef = .pointer (some ⟨w.heap.size + 1, 43, none⟩) := f90
    have f87 : a.tmps.getD 87 undef = .bool (q6_1) := f87
    refine rely_if (rely_gt f87) (NewT.refl _) hK (fun hE hK => ?_)
    exact opr_ldB (hT.row R2.out) (by decide) rfl rfl (f90 hE) (hK _ _ (NewT.refl _) rfl)
  · intro a wx hT hF K hK
    obtain ⟨f89, f91, f87, _⟩ := hF
    have f89 : q6_1 = true → a.tmps.getD 89 undef = dv := f89
    have f91 : q6_1 = true → a.tmps.getD 91 undef = du := f91
    have f87 : a.tmps.getD 87 undef = .bool (q6_1) := f87
    refine rely_if (rely_gt f87) (NewT.refl _) hK (fun hE hK => ?_)
    exact opr_cv (Bytes_cv _ _ x.data y.data wx (hT.rd HD.out) (hT.rd HE.out) hl hm) rfl Tryd.func19 (by kernel_rfl) (by kernel_rfl) (by simp only [List.map_toArray, List.map_cons, List.map_nil, eval_tmp, (f89 hE), (f91 hE)]) hK
  · intro a wx hT hF K hK
    obtain ⟨f87, f92, _⟩ := hF
    have f87 : a.tmps.getD 87 undef = .bool (q6_1) := f87
    have f92 : q6_1 = true → a.tmps.getD 92 undef = .bool (decide (x.data = y.data)) := f92
    refine rely_wp rfl ?_
    exact opr_pick_b rfl f87 (fun hb => hK _ _ (NewT.refl _) (pn_and1 Q7_1 (f92 hb) hb)) (fun hb => hK _ _ (NewT.refl _) (pn_and0 Q7_1 hb))
  · intro a wx hT hF K hK
    obtain ⟨f93, _⟩ := hF
    have f93 : a.tmps.getD 93 undef = .bool (q7_1) := f93
    refine rely_wp rfl ?_
    exact opr_move (.inl rfl) (hK _ _ (NewT.refl _) f93)
  · intro a wx hT hF K hK
    obtain ⟨f2, f94, _⟩ := hF
    have f2 : a.tmps.getD 2 undef = .pointer (some ⟨w.heap.size, 0, none⟩) := f2
    have f94 : a.tmps.getD 94 undef = .bool (q7_1) := f94
    refine rely_if (rely_gt f94) (NewT.refl _) hK (fun hE hK => ?_)
    exact opr_fldR (by decide) rfl f2 (hK _ _ (NewT.refl _) rfl)
  · intro a wx hT hF K hK
    obtain ⟨f95, f94, _⟩ := hF
    have f95 : q7_1 = true → a.tmps.getD 95 undef = .pointer (some ⟨w.heap.size, 44, none⟩) := f95
    have f94 : a.tmps.getD 94 undef = .bool (q7_1) := f94
    refine rely_if (rely_gt f94) (NewT.refl _) hK (fun hE hK => ?_)
    exact opr_ldH (hT.row R1.out) (by decide) (recF_salt x _ _) rfl (f95 hE) (hK _ _ (NewT.refl _) rfl)
  · intro a wx hT hF K hK
    obtain ⟨f3, f94, _⟩ := hF
    have f3 : a.tmps.getD 3 undef = .pointer (some ⟨w.heap.size + 1, 0, none⟩) := f3
    have f94 : a.tmps.getD 94 undef = .bool (q7_1) := f94
    refine rely_if (rely_gt f94) (NewT.refl _) hK (fun hE hK => ?_)
    exact opr_fldR (by decide) rfl f3 (hK _ _ (NewT.refl _) rfl)
  · intro a wx hT hF K hK
    obtain ⟨f97, f94, _⟩ := hF
    have f97 : q7_1 = true → a.tmps.getD 97 undef = .pointer (some ⟨w.heap.size + 1, 44, none⟩) := f97
    have f94 : a.tmps.getD 94 undef = .bool (q7_1) := f94
    refine rely_if (rely_gt f94) (NewT.refl _) hK (fun hE hK => ?_)
    exact opr_ldH (hT.row R2.out) (by decide) (recF_salt y _ _) rfl (f97 hE) (hK _ _ (NewT.refl _) rfl)
  · intro a wx hT hF K hK
    obtain ⟨f96, f98, f94, _⟩ := hF
    have f96 : q7_1 = true → a.tmps.getD 96 undef = .agg (rowA 32 (bF (x.salt))) := f96
    have f98 : q7_1 = true → a.tmps.getD 98 undef = .agg (rowA 32 (bF (y.salt))) := f98
    have f94 : a.tmps.getD 94 undef = .bool (q7_1) := f94
    refine rely_if (rely_gt f94) (NewT.refl _) hK (fun hE hK => ?_)
    exact opr_eql_hash (b := eqH (x.salt) (y.salt)) rfl (f96 hE) (f98 hE) (rfl) (hK _ _ (NewT.refl _) rfl)
  · intro a wx hT hF K hK
    obtain ⟨f94, f99, _⟩ := hF
    have f94 : a.tmps.getD 94 undef = .bool (q7_1) := f94
    have f99 : q7_1 = true → a.tmps.getD 99 undef = .bool (eqH (x.salt) (y.salt)) := f99
    refine rely_wp rfl ?_
    exact opr_pick_b rfl f94 (fun hb => hK _ _ (NewT.refl _) (pn_and1 Q8_1 (f99 hb) hb)) (fun hb => hK _ _ (NewT.refl _) (pn_and0 Q8_1 hb))
  · intro a wx hT hF K hK
    obtain ⟨f100, _⟩ := hF
    have f100 : a.tmps.getD 100 undef = .bool (q8_1) := f100
    refine rely_wp rfl ?_
    exact opr_move (.inl rfl) (hK _ _ (NewT.refl _) f100)
  · intro a wx hT hF K hK
    obtain ⟨f2, f101, _⟩ := hF
    have f2 : a.tmps.getD 2 undef = .pointer (some ⟨w.heap.size, 0, none⟩) := f2
    have f101 : a.tmps.getD 101 undef = .bool (q8_1) := f101
    refine rely_if (rely_gt f101) (NewT.refl _) hK (fun hE hK => ?_)
    exact opr_fldR (by decide) rfl f2 (hK _ _ (NewT.refl _) rfl)
  · intro a wx hT hF K hK
    obtain ⟨f102, f101, _⟩ := hF
    have f102 : q8_1 = true → a.tmps.getD 102 undef = .pointer (some ⟨w.heap.size, 76, none⟩) := f102
    have f101 : a.tmps.getD 101 undef = .bool (q8_1) := f101
    refine rely_if (rely_gt f101) (NewT.refl _) hK (fun hE hK => ?_)
    exact opr_ldQ (hT.row R1.out) (by decide) rfl rfl (f102 hE) (hK _ _ (NewT.refl _) rfl)
  · intro a wx hT hF K hK
    obtain ⟨f3, f101, _⟩ := hF
    have f3 : a.tmps.getD 3 undef = .pointer (some ⟨w.heap.size + 1, 0, none⟩) := f3
    have f101 : a.tmps.getD 101 undef = .bool (q8_1) := f101
    refine rely_if (rely_gt f101) (NewT.refl _) hK (fun hE hK => ?_)
    exact opr_fldR (by decide) rfl f3 (hK _ _ (NewT.refl _) rfl)
  · intro a wx hT hF K hK
    obtain ⟨f104, f101, _⟩ := hF
    have f104 : q8_1 = true → a.tmps.getD 104 undef = .pointer (some ⟨w.heap.size + 1, 76, none⟩) := f104
    have f101 : a.tmps.getD 101 undef = .bool (q8_1) := f101
    refine rely_if (rely_gt f101) (NewT.refl _) hK (fun hE hK => ?_)
    exact opr_ldQ (hT.row R2.out) (by decide) rfl rfl (f104 hE) (hK _ _ (NewT.refl _) rfl)
  · intro a wx hT hF K hK
    obtain ⟨f103, f105, f101, _⟩ := hF
    have f103 : q8_1 = true → a.tmps.getD 103 undef = .bool (x.gone) := f103
    have f105 : q8_1 = true → a.tmps.getD 105 undef = .bool (y.gone) := f105
    have f101 : a.tmps.getD 101 undef = .bool (q8_1) := f101
    refine rely_if (rely_gt f101) (NewT.refl _) hK (fun hE hK => ?_)
    exact opr_eqlQ (b := x.gone == y.gone) (rfl) rfl (f103 hE) (f105 hE) (hK _ _ (NewT.refl _) rfl)
  · intro a wx hT hF K hK
    obtain ⟨f101, f106, _⟩ := hF
    have f101 : a.tmps.getD 101 undef = .bool (q8_1) := f101
    have f106 : q8_1 = true → a.tmps.getD 106 undef = .bool (x.gone == y.gone) := f106
    refine rely_wp rfl ?_
    exact opr_pick_b rfl f101 (fun hb => hK _ _ (NewT.refl _) (pk_and1 (f106 hb) hb)) (fun hb => hK _ _ (NewT.refl _) (pk_and0 hb))
  · intro a wx hT hF K hK
    obtain ⟨f107, _⟩ := hF
    have f107 : a.tmps.getD 107 undef = .bool (q8_1 && (x.gone == y.gone)) := f107
    refine rely_wp rfl ?_
    exact opr_move (.inl rfl) (hK _ _ (NewT.refl _) f107)
  · intro a wx hT hF K hK
    obtain ⟨f2, f108, _⟩ := hF
    have f2 : a.tmps.getD 2 undef = .pointer (some ⟨w.heap.size, 0, none⟩) := f2
    have f108 : a.tmps.getD 108 undef = .bool (q8_1 && (x.gone == y.gone)) := f108
    refine rely_if (rely_gt f108) (NewT.refl _) hK (fun hE hK => ?_)
    exact opr_fldR (by decide) rfl f2 (hK _ _ (NewT.refl _) rfl)
  · intro a wx hT hF K hK
    obtain ⟨f109, f108, _⟩ := hF
    have f109 : (q8_1 && (x.gone == y.gone)) = true → a.tmps.getD 109 undef = .pointer (some ⟨w.heap.size, 77, none⟩) := f109
    have f108 : a.tmps.getD 108 undef = .bool (q8_1 && (x.gone == y.gone)) := f108
    refine rely_if (rely_gt f108) (NewT.refl _) hK (fun hE hK => ?_)
    exact opr_ldH (hT.row R1.out) (by decide) (recF_com x _ _) rfl (f109 hE) (hK _ _ (NewT.refl _) rfl)
  · intro a wx hT hF K hK
    obtain ⟨f3, f108, _⟩ := hF
    have f3 : a.tmps.getD 3 undef = .pointer (some ⟨w.heap.size + 1, 0, none⟩) := f3
    have f108 : a.tmps.getD 108 undef = .bool (q8_1 && (x.gone == y.gone)) := f108
    refine rely_if (rely_gt f108) (NewT.refl _) hK (fun hE hK => ?_)
    exact opr_fldR (by decide) rfl f3 (hK _ _ (NewT.refl _) rfl)
  · intro a wx hT hF K hK
    obtain ⟨f111, f108, _⟩ := hF
    have f111 : (q8_1 && (x.gone == y.gone)) = true → a.tmps.getD 111 undef = .pointer (some ⟨w.heap.size + 1, 77, none⟩) := f111
    have f108 : a.tmps.getD 108 undef = .bool (q8_1 && (x.gone == y.gone)) := f108
    refine rely_if (rely_gt f108) (NewT.refl _) hK (fun hE hK => ?_)
    exact opr_ldH (hT.row R2.out) (by decide) (recF_com y _ _) rfl (f111 hE) (hK _ _ (NewT.refl _) rfl)
  · intro a wx hT hF K hK
    obtain ⟨f110, f112, f108, _⟩ := hF
    have f110 : (q8_1 && (x.gone == y.gone)) = true → a.tmps.getD 110 undef = .agg (rowA 32 (bF (x.com))) := f110
    have f112 : (q8_1 && (x.gone == y.gone)) = true → a.tmps.getD 112 undef = .agg (rowA 32 (bF (y.com))) := f112
    have f108 : a.tmps.getD 108 undef = .bool (q8_1 && (x.gone == y.gone)) := f108
    refine rely_if (rely_gt f108) (NewT.refl _) hK (fun hE hK => ?_)
    exact opr_eql_hash (b := eqH (x.com) (y.com)) rfl (f110 hE) (f112 hE) (rfl) (hK _ _ (NewT.refl _) rfl)
  · intro a wx hT hF K hK
    obtain ⟨f108, f113, _⟩ := hF
    have f108 : a.tmps.getD 108 undef = .bool (q8_1 && (x.gone == y.gone)) := f108
    have f113 : (q8_1 && (x.gone == y.gone)) = true → a.tmps.getD 113 undef = .bool (eqH (x.com) (y.com)) := f113
    refine rely_wp rfl ?_
    exact opr_pick_b rfl f108 (fun hb => hK _ _ (NewT.refl _) (pn_and1 Q9_1 (f113 hb) hb)) (fun hb => hK _ _ (NewT.refl _) (pn_and0 Q9_1 hb))
  · intro wx hT
    intro u h; obtain rfl := Eq.symm (h (by simp)); clear h
    intro u h; obtain rfl := Eq.symm (h (by simp)); clear h
    intro u h; obtain rfl := Eq.symm (h (by simp)); clear h
    intro u h; obtain rfl := Eq.symm (h (by simp)); clear h
    intro u h; obtain rfl := Eq.symm (h (by simp)); clear h
    intro u h; obtain rfl := Eq.symm (h (by simp)); clear h
    intro _ _
    intro _ _
    intro _ _
    intro _ _
    intro _ _
    intro u h; obtain rfl := Eq.symm (h (by simp)); clear h
    intro u h; obtain rfl := Eq.symm (h (by simp)); clear h
    intro _ _
    intro _ _
    intro _ _
    intro _ _
    intro _ _
    intro u h; obtain rfl := Eq.symm (h (by simp)); clear h
    intro u h; obtain rfl := Eq.symm (h (by simp)); clear h
    intro _ _
    intro _ _
    intro _ _
    intro _ _
    intro _ _
    intro u h; obtain rfl := Eq.symm (h (by simp)); clear h
    intro u h; obtain rfl := Eq.symm (h (by simp)); clear h
    intro _ _
    intro _ _
    intro _ _
    intro _ _
    intro _ _
    intro u h; obtain rfl := Eq.symm (h (by simp)); clear h
    intro u h; obtain rfl := Eq.symm (h (by simp)); clear h
    intro _ _
    intro _ _
    intro _ _
    intro _ _
    intro _ _
    intro u h; obtain rfl := Eq.symm (h (by simp)); clear h
    intro u h; obtain rfl := Eq.symm (h (by simp)); clear h
    intro _ _
    intro _ _
    intro _ _
    intro _ _
    intro _ _
    intro u h; obtain rfl := Eq.symm (h (by simp)); clear h
    intro u h; obtain rfl := Eq.symm (h (by simp)); clear h
    intro _ _
    intro _ _
    intro _ _
    intro _ _
    intro _ _
    intro u h; obtain rfl := Eq.symm (h (by simp)); clear h
    intro u h; obtain rfl := Eq.symm (h (by simp)); clear h
    intro _ _
    intro _ _
    intro _ _
    intro _ _
    intro _ _
    intro u h; obtain rfl := Eq.symm (h (by simp)); clear h
    intro u h; obtain rfl := Eq.symm (h (by simp)); clear h
    intro _ _
    intro _ _
    intro _ _
    intro _ _
    intro _ _
    intro u h; obtain rfl := Eq.symm (h (by simp)); clear h
    intro u h; obtain rfl := Eq.symm (h (by simp)); clear h
    intro _ _
    intro _ _
    intro _ _
    intro _ _
    intro _ _
    intro u h; obtain rfl := Eq.symm (h (by simp)); clear h
    intro u h; obtain rfl := Eq.symm (h (by simp)); clear h
    intro _ _
    intro _ _
    intro _ _
    intro _ _
    intro _ _
    intro u h; obtain rfl := Eq.symm (h (by simp)); clear h
    intro u h; obtain rfl := Eq.symm (h (by simp)); clear h
    intro _ _
    intro _ _
    intro _ _
    intro _ _
    intro _ _
    intro u h; obtain rfl := Eq.symm (h (by simp)); clear h
    intro u h; obtain rfl := Eq.symm (h (by simp)); clear h
    intro _ _
    intro _ _
    intro _ _
    intro _ _
    intro _ _
    intro u h; obtain rfl := Eq.symm (h (by simp)); clear h
    intro u h; obtain rfl := Eq.symm (h (by simp)); clear h
    intro _ _
    intro _ _
    intro _ _
    intro _ _
    intro _ _
    intro u h; obtain rfl := Eq.symm (h (by simp)); clear h
    intro u h; obtain rfl := Eq.symm (h (by simp)); clear h
    intro _ _
    intro _ _
    intro _ _
    intro _ _
    intro _ _
    intro u h; obtain rfl := Eq.symm (h (by simp)); clear h
    subst Q9_1 Q8_1 Q7_1 Q6_1 Q5_1 Q4_1 Q3_1 Q2_1 Q1_1
    refine relyEnd_nil rfl ?_
    simp only [Act.put, List.setIfInBounds_toArray, List.set_cons_zero, List.set_cons_succ]
    refine wpList_plain rfl (fun K hK => ?_)
    refine opr_move (.inr rfl) (hK _ _ ?_)
    refine wpList_end rfl ?_
    go_simp
    go_wp2
    go_ret
    exact ⟨_, rfl, NewT.trans _ _ _ HN.out hT, rfl⟩
end Go.Proofs.YthgblcpekhiphaaDoor
