/- Clone; Bytes, Hash; a new reader. -/
import Derived.Test.YteelddmegmojpaaW3
import Derived.Lib.SliceRun
namespace Go.Proofs.Yteelddmegmojpaa
open Go Go.RowKit

set_option maxHeartbeats 400000 in
theorem Clone_cv (v : Value) (l : List UInt8) (L : List Nat) (w : World) (h : RdV w L v l) (hl : l.length ≤ 1000000) : Cv 27 #[v] w (svRdN w l) := by
  unfold Cv
  have H := Lib.hid h
  obtain ⟨A, cap, rfl, h1, h2, h3⟩ := h
  obtain ⟨i0, hi, hz0, hz1, hz2⟩ := info_parts info5
  have hq : ∀ (w : World) (a : Option Addr) (n c n' c' : Nat), (binOp .eql 22 (.slice a n c) (.slice none n' c')).run Try.prog w = .ok (.bool a.isNone) w := fun w a n c n' c' => Lib.run_eql_slice_nil w _ _ a n c n' c' Try.underlying22
  cases A with
  | none =>
    have h0 : l = [] := by
      cases l with
      | nil => rfl
      | cons b l => obtain ⟨_, _, h, _⟩ := h3 (by simp); cases h
    subst h0
    clear h3
    go_enter Try.func27, Try.ntmps27
    go_wp2
    go_ret
    exact ⟨_, rfl, NewT.refl _, fun L _ => rdV_nil _ _⟩
  | some a =>
    clear h3
    have r0 : (w.alloc (.cells #[] 5)).rowIs w.heap.size 5 0 (fun _ => undef) := rowIs_box w 5 0 (fun _ => undef)
    have o0 := ownsRow_row r0 w.heap.size 0 (by omega) (by unfold maxLen; omega) (Nat.le_refl _)
    have hB : Below w.heap.size w (w.alloc (.cells #[] 5)) := (Below.refl _ w).alloc (Nat.le_refl _) _
    have Hrd := Lib.hid (H.out.keep (KeepBut.below hB))
    generalize hn : l.length = n at *
    go_enter Try.func27, Try.ntmps27
    go_wp2_with (at_builtin; refine wpList_append_rd rfl (.tmp 5) (.tmp 6) 22 rfl (base := w.heap.size) Try.underlying22 hi hz0 hz1 hz2 rfl o0 rfl Hrd.out (by omega) hB.size ?_; intro v2 w2 o2 grow2)
    go_ret
    exact ⟨_, rfl, hB.grown grow2 hB.size (fun k e => (o0.lt k e).1), rdN_own o2 (by omega)⟩
set_option maxHeartbeats 1000000 in
theorem WBytes_cv (v : Value) (l : List UInt8) (w : World) (h : RdV w [] v l) (hl : l.length ≤ 900000) : Cv 14 #[v] w (svRdN w (numL l.length ++ l)) := by
  unfold Cv
  have H := Lib.hid h
  obtain ⟨A, cap, rfl, h1, h2, h3⟩ := h
  clear h3
  generalize hn : l.length = n at *
  have h5 := sz_le n
  have hnl : (numL n).length ≤ 5 := by rw [numL_length]; exact h5
  have hni := numI_nat n (by omega)
  generalize numL n = m at hnl hni
  have Hn := Lib.hid hn
  have Hni := Lib.hid hni
  clear hn hni h5
  go_enter Try.func14, Try.ntmps14
  go_wp2_with (first
    | (go_at_call 11; refine Calls.mono (Num_cv n w) ?_; rintro _ w1 ⟨v1, rfl, hN1, hv1⟩; rw [Hni.out] at hv1; obtain ⟨A1, c1, rfl⟩ := rdV_form (hv1 [] (by simp)))
    | (go_at_call 18
       have hP : Parts (w1.alloc (.cells #[.slice A1 m.length c1, .slice A n cap] 22)) (.slice (some ⟨w1.heap.size, 0, none⟩) 2 2) [m, l] :=
         ⟨[(.slice A1 m.length c1, m), (.slice A n cap, l)], parts_new [(.slice A1 m.length c1, m), (.slice A n cap, l)] 22 (by simp) (by simp) (by simp; exact ⟨hv1 [] (by simp), hN1.rd H.out⟩), rfl⟩
       refine Calls.mono (All_cv _ [m, l] (m ++ l) _ hP (by simp) (by have := Hn.out; simp; omega)) ?_; rintro _ w2 ⟨v2, rfl, hN2, hv2⟩))
  go_ret
  refine ⟨_, rfl, NewT.trans _ _ _ hN1 (NewT.trans _ _ _ (NewT.alloc _ _) hN2), fun L hL => hv2 L fun k hk => ?_⟩
  have := hL k hk
  have := hN1.out.size
  simp; omega
set_option maxHeartbeats 1000000 in
theorem WHash_cv (d : Nat → UInt8) (w : World) : Cv 16 #[.agg (rowA 32 (bF d))] w (svRdN w (digL d)) := by
  unfold Cv
  have r0 := rowIs_box w 24 32 (bF d)
  have hN : NewT w (w.alloc (.cells (rowA 32 (bF d)) 24)) := NewT.alloc _ _
  have hrd : RdV _ [] _ (digL d) := rd_row (L := []) r0 (by simp) (by omega)
  have hsl := run_sliceAt_hash
  go_enter Try.func16, Try.ntmps16
  go_wp2_with (first
    | (go_at_call 18
       have hP : Parts ((w.alloc (.cells (rowA 32 (bF d)) 24)).alloc (.cells #[.slice (some ⟨w.heap.size, 0, none⟩) 32 32] 22)) (.slice (some ⟨w.heap.size + 1, 0, none⟩) 1 1) [digL d] := by
         have := parts_new (L := []) [(.slice (some ⟨w.heap.size, 0, none⟩) 32 32, digL d)] 22 (by simp) (by simp) (W := w.alloc (.cells (rowA 32 (bF d)) 24)) (by simpa using hrd)
         rw [World.size_alloc] at this
         exact ⟨[(.slice (some ⟨w.heap.size, 0, none⟩) 32 32, digL d)], this, rfl⟩
       refine Calls.mono (All_cv _ [digL d] (digL d) _ hP (by simp) (by rw [digL_length]; omega)) ?_; rintro _ w2 ⟨v2, rfl, hN2, hv2⟩))
  go_ret
  refine ⟨_, rfl, NewT.trans _ _ _ hN (NewT.trans _ _ _ (NewT.alloc _ _) hN2), fun L hL => hv2 L fun k hk => ?_⟩
  have := hL k hk
  simp; omega
set_option maxHeartbeats 1000000 in
/-- A new reader. -/
theorem Read_any (v : Value) (l : List UInt8) (w : World) (h : RdV w [] v l) (hl : l.length ≤ 1000000) : Calls Try.prog 17 #[v] w fun e w' => ∃ R, e = .returned (.pointer (some ⟨R, 0, none⟩)) ∧ NewT w w' ∧ w.heap.size ≤ R ∧ Rdr w' R l 0 := by
  have H := Lib.hid h
  clear h
  go_enter Try.func17, Try.ntmps17
  go_wp2_with (go_at_call 27; refine Calls.mono (Clone_cv v l [] w H.out hl) ?_; rintro _ w1 ⟨v1, rfl, hN1, hv1⟩; obtain ⟨A1, c1, hv1e⟩ := rdV_form (hv1 [] (by simp)))
  go_ret
  refine ⟨_, rfl, NewT.trans _ _ _ hN1 (NewT.alloc _ _), hN1.out.size, v1, ?_, ?_, fun h => absurd rfl h⟩
  · rw [hv1e]
    exact (rowIs_box w1 47 2 (fun i => if i = 0 then .slice A1 l.length c1 else .int .i64 0))
  · exact fun L hL => ((hv1 [] (by simp)).more (fun k hk _ hm => by have := hL k hm; omega)).keep (KeepBut.alloc _ _)
end Go.Proofs.Yteelddmegmojpaa
