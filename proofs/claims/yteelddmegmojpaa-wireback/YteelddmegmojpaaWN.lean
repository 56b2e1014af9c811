/- WireOne, walked: each number has just one form, and no beginning of it is a number. -/
import Derived.Test.YteelddmegmojpaaWR
namespace Go.Proofs.Yteelddmegmojpaa
open Go Go.RowKit

/-- The first m bytes. -/
theorem rd_to {w : World} {L : List Nat} {A : Option Addr} {n cap m : Nat} {l : List UInt8} (h : RdV w L (.slice A n cap) l) (hm : m ≤ n) : RdV w L (.slice A m cap) (l.take m) := by
  obtain ⟨A', c, hv, h1, h2, h3⟩ := h
  cases hv
  have hlen : (l.take m).length = m := by simp; omega
  refine ⟨A, cap, by rw [hlen], by rw [hlen]; omega, h2, fun h0 => ?_⟩
  rw [hlen] at h0
  obtain ⟨b, o, hA, hb, hc⟩ := h3 (by omega)
  refine ⟨b, o, hA, hb, fun i hi => ?_⟩
  rw [hlen] at hi
  rw [hc i (by omega)]
  simp [bAt, hi]
theorem opr_slice_to {a : Act} {w : World} {o : Oper} {K : Act → World → Prop} {Q : Exit → Act → World → Prop} {x y : Operand} {A : Option Addr} {n cap m : Nat} (ho : o.op = .slice 22 x none (some y) none) (hx : a.eval x = .slice A n cap) (hy : a.eval y = .int .i64 (m : Int)) (hm : m ≤ cap) (h : K (a.put o.dst (.slice A m cap)) w) : o.wp Try.prog a w K Q := by
  obtain ⟨dst, op, type, pos, after, guard⟩ := o
  simp only at ho
  subst ho
  refine opr_val (s := Instr.sliceAt 22 (a.eval x) none (some (a.eval y)) none) rfl ?_ h
  rw [hx, hy]
  have := slice_to A n cap m hm w
  simpa [Instr.sliceAt, run_underlying Try.underlying22] using this
set_option maxHeartbeats 4000000 in
theorem WireOne_bad (A : Option Addr) (m cap : Nat) (lb : List UInt8) (w : World) (hb : RdV w [] (.slice A m cap) lb) (hm : lb.length = m) (hs : m ≤ 100) (er : Nat) (ho : outN lb = (0, [], er)) (he : er ≠ 0) : Calls Try.prog 5 #[.slice A m cap] w fun e w' => e = .returned (.bool true) ∧ Below w.heap.size w w' := by
  have Hb := Lib.hid hb
  have Ho := Lib.hid ho
  have Hm := Lib.hid hm
  have hbe : ((er : Int) != 0) = true := by simp; omega
  clear hb ho hm he
  go_enter Try.func5, Try.ntmps5
  go_wp2_with (first
      | (go_at_call 9; refine (alive3_any w).mono ?_; rintro _ w1 ⟨rfl, hB1⟩)
      | (go_at_call 17; refine (Read_any _ lb w1 (NewT.rd hB1 Hb.out) (by have := Hm.out; omega)).mono ?_; rintro _ w2 ⟨R, rfl, hN2, hR2, hr2⟩; have G2 := Lib.hid hr2; clear hr2)
      | (go_at_call 19; refine (RNum_good R lb w2 G2.out (by have := Hm.out; omega)).mono ?_; rintro _ w3 ⟨rfl, hT3, hr3⟩; rw [Ho.out] at hr3 ⊢; simp only at hr3 ⊢; have G3 := Lib.hid hr3; clear hr3)
      | (go_at_call 24; refine (Bad_any R _ _ w3 G3.out).eq.mono ?_; rintro _ w4 ⟨rfl, hB4⟩; have G4 := Lib.hid (G3.out.new hB4))
      | (go_at_call 23; refine (Left_any R _ _ w4 G4.out).eq.mono ?_; rintro _ w5 ⟨rfl, hB5⟩; have G5 := Lib.hid (G4.out.new hB5)))
  go_ret
  have hB : RT R w2 w5 := RT.trans _ _ _ hT3 (RT.trans _ _ _ (RT.new G3.out.lt hB4) (RT.new G4.out.lt hB5))
  have hsz := hB1.size
  exact ⟨rfl, (NewT.trans _ _ _ hB1 hN2).out.trans (hB.below.mono (by omega))⟩
set_option maxHeartbeats 4000000 in
theorem WireOne_good (A : Option Addr) (m cap : Nat) (lb y : List UInt8) (n k : Nat) (w : World) (hb : RdV w [] (.slice A m cap) lb) (hm : lb.length = m) (hs : m ≤ 100) (hc : m ≤ cap) (hkm : k ≤ m) (ho : outN lb = (n, lb.drop k, 0)) (e1 : numI (n : Int) = y) (ey : lb.take k = y) (hy : y.length ≤ 1000000)
    (hpre : ∀ i, i < k → outN (lb.take i) = (0, [], 3)) : Calls Try.prog 5 #[.slice A m cap] w fun e w' => e = .returned (.bool true) ∧ Below w.heap.size w w' := by
  have Hb := Lib.hid hb
  have Ho := Lib.hid ho
  have Hm := Lib.hid hm
  have E1 := Lib.hid e1
  have Ey := Lib.hid ey
  have Hpre := Lib.hid hpre
  have hdl : (lb.drop k).length = m - k := by rw [List.length_drop, hm]
  have Hdl := Lib.hid hdl
  have hsub : (m : Int) - ((m - k : Nat) : Int) = (k : Int) := by omega
  clear hb ho hm e1 ey hpre hdl
  go_enter Try.func5, Try.ntmps5
  go_wp2_with (first
      | (go_at_call 9; refine (alive3_any w).mono ?_; rintro _ w1 ⟨rfl, hB1⟩)
      | (go_at_call 17; refine (Read_any _ lb w1 (NewT.rd hB1 Hb.out) (by have := Hm.out; omega)).mono ?_; rintro _ w2 ⟨R, rfl, hN2, hR2, hr2⟩; have G2 := Lib.hid hr2; clear hr2)
      | (go_at_call 19; refine (RNum_good R lb w2 G2.out (by have := Hm.out; omega)).mono ?_; rintro _ w3 ⟨rfl, hT3, hr3⟩; rw [Ho.out] at hr3 ⊢; simp only at hr3 ⊢; have G3 := Lib.hid hr3; clear hr3)
      | (go_at_call 24; refine (Bad_any R _ _ w3 G3.out).eq.mono ?_; rintro _ w4 ⟨rfl, hB4⟩; have G4 := Lib.hid (G3.out.new hB4))
      | (go_at_call 23; refine (Left_any R _ _ w4 G4.out).eq.mono ?_; rintro _ w5 ⟨rfl, hB5⟩; have G5 := Lib.hid (G4.out.new hB5); rw [Hdl.out]))
  have hB : RT R w2 w5 := RT.trans _ _ _ hT3 (RT.trans _ _ _ (RT.new G3.out.lt hB4) (RT.new G4.out.lt hB5))
  have hsz := hB1.size
  have hB5' : Below w.heap.size w w5 := (NewT.trans _ _ _ hB1 hN2).out.trans (hB.below.mono (by omega))
  have Ry : Hid (RdV w5 [] (.slice A k cap) y) := Lib.hid (by rw [← Ey.out]; exact rd_to (Hb.out.keep (KeepBut.below hB5')) hkm)
  clear hsub hB hB5 hB4 hT3 hN2 hR2 G2 G3 G4 G5
  refine wp_region_rely NewT [SV.eq (.int .i64 (n : Int)), svRd y, SV.eq (.slice A m cap), SV.eq (.int .i64 (k : Int)), svRd y, SV.eq (.bool true)] [([(4, none)], none), ([(32, some 0)], none), ([(0, none)], none), ([(5, none)], none), ([(34, some 2), (35, some 3)], none), ([(33, some 1), (36, some 4)], none)] 53 rfl (by kernel_rfl) rfl (by kernel_rfl) (by kernel_rfl) rfl NewT.trans (NewT.drew _) (Nat.le_of_ble_eq_true rfl) ⟨?_, ?_, ?_, ?_, ?_, ?_, trivial⟩ ?_
  · -- 0: Op.move t4
    intro a wx hT hF K hK
    obtain ⟨f4, _⟩ := hF
    have f4 : a.tmps.getD 4 undef = .int .i64 (n : Int) := f4
    refine rely_wp rfl ?_
    exact opr_move (.inl rfl) (hK _ _ (NewT.refl _) f4)
  · -- 1: Op.call ( value (Operand.func 11), args := #[t32], argTypes 
    intro a wx hT hF K hK
    obtain ⟨f32, _⟩ := hF
    have f32 : a.tmps.getD 32 undef = .int .i64 (n : Int) := f32
    refine rely_wp rfl ?_
    exact opr_cv (Num_rd _ y wx E1.out) rfl Try.func11 (by kernel_rfl) (by kernel_rfl) (by simp only [List.map_toArray, List.map_cons, List.map_nil, eval_tmp, f32]) hK
  · -- 2: Op.move t0
    intro a wx hT hF K hK
    obtain ⟨f0, _⟩ := hF
    have f0 : a.tmps.getD 0 undef = .slice A m cap := f0
    refine rely_wp rfl ?_
    exact opr_move (.inl rfl) (hK _ _ (NewT.refl _) f0)
  · -- 3: Op.move t5
    intro a wx hT hF K hK
    obtain ⟨f5, _⟩ := hF
    have f5 : a.tmps.getD 5 undef = .int .i64 (k : Int) := f5
    refine rely_wp rfl ?_
    exact opr_move (.inl rfl) (hK _ _ (NewT.refl _) f5)
  · -- 4: Op.slice 22 t34 none (some t35) none
    intro a wx hT hF K hK
    obtain ⟨f34, f35, _⟩ := hF
    have f34 : a.tmps.getD 34 undef = .slice A m cap := f34
    have f35 : a.tmps.getD 35 undef = .int .i64 (k : Int) := f35
    refine rely_wp rfl ?_
    exact opr_slice_to rfl f34 f35 (by omega) (hK _ _ (NewT.refl _) (hT.rd Ry.out))
  · -- 5: Op.call ( value (Operand.func 10), args := #[t33, t36], argT
    intro a wx hT hF K hK
    obtain ⟨f33, f36, _⟩ := hF
    replace f33 := show (svRd y).pred (a.tmps.getD 33 undef) wx from f33
    replace f36 := show (svRd y).pred (a.tmps.getD 36 undef) wx from f36
    refine rely_wp rfl ?_
    exact opr_cv (Bytes_true _ _ y wx f33 f36 (by omega)) rfl Try.func10 (by kernel_rfl) (by kernel_rfl) (by simp only [List.map_toArray, List.map_cons, List.map_nil, eval_tmp]) hK
  · intro wx hT
    intro u h; obtain rfl := h (by simp); clear h
    intro u33 h; have g33 := h (by simp); clear h; replace g33 := show (svRd y).pred u33 wx from g33
    intro u h; obtain rfl := h (by simp); clear h
    intro u h; obtain rfl := h (by simp); clear h
    intro u36 h; have g36 := h (by simp); clear h; replace g36 := show (svRd y).pred u36 wx from g36
    intro u h; obtain rfl := h (by simp); clear h
    refine relyEnd_nil rfl ?_
    simp only [Act.put, List.setIfInBounds_toArray, List.set_cons_zero, List.set_cons_succ]
    go_simp
    have hBx : Below w.heap.size w wx := hB5'.trans (hT.out.mono hB5'.size)
    clear hT hB5' g33 g36 Ry
    go_wp2
    go_loopw [6] (fun i wr => ∃ j : Nat, j ≤ k ∧ i = .int .i64 j ∧ Below w.heap.size w wr) (fun i _ => k - (intOf i).toNat)
    case atStart => exact ⟨0, by omega, rfl, hBx⟩
    case round =>
      obtain ⟨j, hj, rfl, qB⟩ := hrel
      clear hBx
      by_cases hlt : j < k
      · have hsl := slice_to A m cap j (by omega)
        have RJ : Hid (RdV wr [] (.slice A j cap) (lb.take j)) := Lib.hid (rd_to (Hb.out.keep (KeepBut.below qB)) (by omega))
        have hjl : (lb.take j).length ≤ 1000000 := by have := Hm.out; simp; omega
        have hoj := Hpre.out j hlt
        generalize lb.take j = lj at RJ hjl hoj
        have Hoj := Lib.hid hoj
        clear hoj
        go_wp2_with (first
          | (go_at_call 17; refine (Read_any _ lj wr RJ.out hjl).mono ?_; rintro _ x2 ⟨S, rfl, hM2, hS2, hs2⟩; have K2 := Lib.hid hs2; clear hs2)
          | (go_at_call 19; refine (RNum_good S lj x2 K2.out hjl).mono ?_; rintro _ x3 ⟨rfl, hU3, hs3⟩; rw [Hoj.out] at hs3 ⊢; simp only at hs3 ⊢; have K3 := Lib.hid hs3; clear hs3)
          | (go_at_call 24; refine (Bad_any S _ _ x3 K3.out).eq.mono ?_; rintro _ x4 ⟨rfl, hC4⟩))
        go_roundw
        case rel =>
          have hU : RT S x2 x4 := RT.trans _ _ _ hU3 (RT.new K3.out.lt hC4)
          have h1 := qB.size
          exact ⟨j + 1, by omega, by go_num, (qB.trans (hM2.out.mono h1)).trans (hU.below.mono (by omega))⟩
        case measure => simp [intOf]; omega
      · obtain rfl : j = k := by omega
        go_wp2
        go_ret
        exact ⟨rfl, qB⟩
set_option maxHeartbeats 1000000 in
theorem WireOne_walk (vb : Value) (lb : List UInt8) (w : World) (hb : RdV w [] vb lb) : Calls Try.prog 5 #[vb] w fun e w' => e = .returned (.bool true) ∧ Below w.heap.size w w' := by
  have hb0 := hb
  obtain ⟨A, cap, rfl, h1, h2, _⟩ := hb0
  unfold maxLen at h2
  by_cases hl : 100 < lb.length
  · clear hb
    go_enter Try.func5, Try.ntmps5
    go_wp2_with (go_at_call 9; refine (alive3_any w).mono ?_; rintro _ w1 ⟨rfl, hB1⟩)
    go_ret
    exact ⟨rfl, hB1⟩
  have hbd := goN_bounds lb 0 0
  have her := goN_err lb 0 0
  have hone := goN_one lb
  obtain ⟨g, hg⟩ : ∃ g, goN lb 0 0 = g := ⟨_, rfl⟩
  rw [hg] at hbd her
  obtain ⟨n, k, er⟩ := g
  simp only at hbd her
  by_cases he : er = 0
  · subst he
    have ho : outN lb = (n, lb.drop k, 0) := by unfold outN; rw [hg]; rfl
    obtain ⟨hn, _, hk⟩ := hbd rfl
    obtain ⟨ey, hp⟩ := hone n k hg
    refine WireOne_good A lb.length cap lb (numL n) n k w hb rfl (by omega) h1 (by omega) ho (numI_nat n hn) ey.symm (by rw [numL_length]; have := sz_le n; omega) fun i hi => ?_
    have := hp i hi
    unfold outN
    rw [this]; rfl
  · have ho : outN lb = (0, [], er) := by unfold outN; rw [hg]; simp only; rw [if_neg he]
    exact WireOne_bad A lb.length cap lb w hb rfl (by omega) er ho he
end Go.Proofs.Yteelddmegmojpaa
