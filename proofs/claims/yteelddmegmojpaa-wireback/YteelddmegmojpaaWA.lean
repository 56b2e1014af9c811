/- The document's example, layer 3: alive. -/
import Derived.Test.YteelddmegmojpaaW9
namespace Go.Proofs.Yteelddmegmojpaa
open Go Go.RowKit

theorem rdV_form' {W : World} {L : List Nat} {v : Value} {l : List UInt8} (h : RdV W L v l) : ∃ A n cap, v = .slice A n cap ∧ Hid (l.length = n) := by
  obtain ⟨A, cap, hv, _⟩ := h; exact ⟨A, l.length, cap, hv, Lib.hid rfl⟩
/-- A slice of bytes becomes a string. -/
theorem conv_rd {w : World} {L : List Nat} {v : Value} {l : List UInt8} (h : RdV w L v l) : (convert 22 9 v).run Try.prog w = .ok (.string ⟨l.toArray⟩) w := by
  obtain ⟨A, cap, rfl, h1, h2, h3⟩ := h
  by_cases h0 : 0 < l.length
  · obtain ⟨b, o, rfl, _, hc⟩ := h3 h0
    have := run_convert_bytes_arg (P := Try.prog) w 22 5 Try.underlying22 Try.underlying5 b o l.length cap (l.map bN) (by simp) (fun i hi => by
      rw [hc i hi]
      simp [bAt, hi]) 9 Try.underlying9
    rw [this]
    have e : strOfNums (l.map bN) = ⟨l.toArray⟩ := by
      unfold strOfNums
      congr 2
      rw [List.map_map]
      conv => rhs; rw [← List.map_id l]
      exact List.map_congr_left fun b _ => by simp [bN]
    rw [e]
  · have : l = [] := List.eq_nil_of_length_eq_zero (by omega)
    subst this
    simp only [List.length_nil]
    simp [convert, run_underlying Try.underlying22, run_underlying Try.underlying9, run_underlying Try.underlying5, Conv.bytesToString]
    cases A <;> simp [go_sem] <;> rfl
/-- The example's bytes, and what is left of them. -/
def aZ : List UInt8 := [7, 0, 0, 0, 0, 0, 0, 0, 0, 0, 0, 0, 0, 0, 0, 0, 0, 0, 0, 0, 0, 0, 0, 0, 0, 0, 0, 0, 0, 0, 0, 0]
def aY : List UInt8 := [2, 97, 98] ++ aZ
def aX : List UInt8 := 1 :: aY
def aW : List UInt8 := [130, 44] ++ aX
def aD : Nat → UInt8 := fun i => if i = 0 then 7 else 0
theorem aN : outN aW = (300, aX, 0) := by decide +kernel
theorem aF : outF aX = (true, aY, 0) := by decide +kernel
theorem aB : outB aY 9 = ([97, 98], aZ, 0) := by decide +kernel
theorem aH : (outH aZ).2 = ([], 0) := by decide +kernel
theorem aH1 : (outH aZ).1 = bAt aZ := by rw [outH, if_neg (by decide)]
theorem aE : outN [] = (0, [], 3) := by decide +kernel
theorem aAll : [numI 300, [if true then 1 else 0], numL 2 ++ [97, 98], digL aD].flatten = aW := by decide +kernel
theorem aDz : rowA 32 (bF aD) = #[.int .u8 7, .int .u8 0, .int .u8 0, .int .u8 0, .int .u8 0, .int .u8 0, .int .u8 0, .int .u8 0, .int .u8 0, .int .u8 0, .int .u8 0, .int .u8 0, .int .u8 0, .int .u8 0, .int .u8 0, .int .u8 0, .int .u8 0, .int .u8 0, .int .u8 0, .int .u8 0, .int .u8 0, .int .u8 0, .int .u8 0, .int .u8 0, .int .u8 0, .int .u8 0, .int .u8 0, .int .u8 0, .int .u8 0, .int .u8 0, .int .u8 0, .int .u8 0] := rfl
theorem rd_ab (W : World) : RdV (W.alloc (.cells #[.int .u8 97, .int .u8 98] 5 (2, 3))) [] (.slice (some ⟨W.heap.size, 0, none⟩) 2 2) [97, 98] :=
  rdV_lit (l := [97, 98]) (Nat.le_refl _) (by unfold maxLen; simp) fun i hi => by
    rw [cell_new_fr _ _ _ _ _ _ rfl]
    have : i = 0 ∨ i = 1 := by simp at hi; omega
    rcases this with rfl | rfl <;> rfl
theorem parts4 {W : World} {v1 v2 v3 v4 : Value} {l1 l2 l3 l4 : List UInt8} (h1 : RdV W [] v1 l1) (h2 : RdV W [] v2 l2) (h3 : RdV W [] v3 l3) (h4 : RdV W [] v4 l4) : Parts (W.alloc (.cells #[v1, v2, v3, v4] 22)) (.slice (some ⟨W.heap.size, 0, none⟩) 4 4) [l1, l2, l3, l4] :=
  ⟨[(v1, l1), (v2, l2), (v3, l3), (v4, l4)], parts_new [(v1, l1), (v2, l2), (v3, l3), (v4, l4)] 22 (by simp) (by simp) (by simp; exact ⟨h1, h2, h3, h4⟩), rfl⟩
theorem parts5 {W : World} {v1 v2 v3 v4 v5 : Value} {l1 l2 l3 l4 l5 : List UInt8} (h1 : RdV W [] v1 l1) (h2 : RdV W [] v2 l2) (h3 : RdV W [] v3 l3) (h4 : RdV W [] v4 l4) (h5 : RdV W [] v5 l5) : Parts (W.alloc (.cells #[v1, v2, v3, v4, v5] 22)) (.slice (some ⟨W.heap.size, 0, none⟩) 5 5) [l1, l2, l3, l4, l5] :=
  ⟨[(v1, l1), (v2, l2), (v3, l3), (v4, l4), (v5, l5)], parts_new [(v1, l1), (v2, l2), (v3, l3), (v4, l4), (v5, l5)] 22 (by simp) (by simp) (by simp; exact ⟨h1, h2, h3, h4, h5⟩), rfl⟩
theorem aIdx (w : World) : (Instr.index 24 (.agg (rowA 32 (bF (bAt aZ)))) (.int .i64 0)).run Try.prog w = .ok (.int .u8 7) w := index_row (P := Try.prog) 24 5 _ Try.underlying24 Try.underlying5 rfl info5s (bF (bAt aZ)) .i64 0 (by omega) w
theorem aCells {W : World} {A : Option Addr} {n c : Nat} (h : RdV W [] (.slice A n c) aW) : ∃ b o, A = some ⟨b, o, none⟩ ∧ W.cell? ⟨b, o, none⟩ = some (.int .u8 130) ∧ W.cell? ⟨b, o + 1, none⟩ = some (.int .u8 44) := by
  obtain ⟨A', c', hv, _, _, hc⟩ := h
  cases hv
  obtain ⟨b, o, h1, _, h2⟩ := hc (by decide)
  exact ⟨b, o, h1, h2 0 (by decide), h2 1 (by decide)⟩
attribute [local go_sem] conv_bytes
set_option maxHeartbeats 4000000 in
theorem alive3_any (w : World) : Calls Try.prog 9 #[] w fun e w' => e = .returned (.bool true) ∧ Below w.heap.size w w' := by
  go_enter Try.func9, Try.ntmps9
  go_wp2_with (first
    | (go_at_call 11; refine Calls.mono (Num_cv 300 w) ?_; rintro _ w1 ⟨v1, rfl, hN1, hv1⟩; obtain ⟨A1, n1, c1, rfl, Hn1⟩ := rdV_form' (hv1 [] (by simp)); have V1 := Lib.hid (svRdN_rd hv1 [] (by simp)); clear hv1)
    | (go_at_call 13; refine Calls.mono (Flag_cv true w1) ?_; rintro _ w2 ⟨v2, rfl, hN2, hv2⟩; obtain ⟨A2, n2, c2, rfl, Hn2⟩ := rdV_form' (hv2 [] (by simp)); have V2 := Lib.hid (svRdN_rd hv2 [] (by simp)); clear hv2)
    | (go_at_call 14; have hW2 : NewT w2 (w2.alloc (.cells #[.int .u8 97, .int .u8 98] 5 (2, 3))) := NewT.alloc _ _; refine Calls.mono (WBytes_cv _ [97, 98] _ (rd_ab w2) (by simp)) ?_; rintro _ w3 ⟨v3, rfl, hN3, hv3⟩; obtain ⟨A3, n3, c3, rfl, Hn3⟩ := rdV_form' (hv3 [] (by simp)); have V3 := Lib.hid (svRdN_rd hv3 [] (by simp)); clear hv3)
    | (go_at_call 16; refine Calls.mono (WHash_cv aD w3) ?_; rintro _ w4 ⟨v4, rfl, hN4, hv4⟩; obtain ⟨A4, n4, c4, rfl, Hn4⟩ := rdV_form' (hv4 [] (by simp)); have V4 := Lib.hid (svRdN_rd hv4 [] (by simp)); clear hv4)
    | (go_at_call 18
       have hP := parts4 (hN4.rd (hN3.rd (hW2.rd (hN2.rd V1.out)))) (hN4.rd (hN3.rd (hW2.rd V2.out))) (hN4.rd V3.out) V4.out
       refine Calls.mono (All_cv _ _ aW _ hP aAll (by decide)) ?_; rintro _ w5 ⟨v5, rfl, hN5, hv5⟩; obtain ⟨A5, n5, c5, rfl, Hn5⟩ := rdV_form' (hv5 [] (by simp)); have V5 := Lib.hid (svRdN_rd hv5 [] (by simp)); clear hv5 hP; obtain rfl : 38 = n5 := Hn5.out; obtain ⟨b5, o5, e5, k0, k1⟩ := aCells V5.out; obtain rfl := e5)
    | (go_at_call 17; refine (Read_any _ aW w5 V5.out (by decide)).mono ?_; rintro _ w6 ⟨R, rfl, hN6, hR6, hr6⟩; have q0 := (hN6.out.cell (p := ⟨b5, o5, none⟩) (World.block_lt_of_cell? _ _ k0)).trans k0; have q1 := (hN6.out.cell (p := ⟨b5, o5 + 1, none⟩) (World.block_lt_of_cell? _ _ k1)).trans k1; clear k0 k1; have G6 := Lib.hid hr6; clear hr6)
    | (go_at_call 19; refine (RNum_good R aW w6 G6.out (by decide)).mono ?_; rintro _ w7 ⟨rfl, hT7, hr7⟩; rw [aN] at hr7 ⊢; simp only at hr7 ⊢; have G7 := Lib.hid hr7; clear hr7)
    | (go_at_call 20; refine (RFlag_good R aX w7 G7.out (by decide)).mono ?_; rintro _ w8 ⟨rfl, hT8, hr8⟩; rw [aF] at hr8 ⊢; simp only at hr8 ⊢; have G8 := Lib.hid hr8; clear hr8)
    | (go_at_call 21; refine (RBytes_good R 9 aY w8 G8.out (by decide)).mono ?_; rintro _ w9 ⟨u9, rfl, hu9, hT9, hr9⟩; rw [aB] at hr9 hu9; simp only at hr9 hu9; have hcv := conv_rd (svRdN_rd hu9 [] (by simp)); have G9 := Lib.hid hr9; clear hr9 hu9)
    | (go_at_call 23; refine (Left_any R aZ 0 w9 G9.out).eq.mono ?_; rintro _ wa ⟨rfl, hBa⟩; rw [show (aZ.length : Int) = 32 from rfl]; have Ga := Lib.hid (G9.out.new hBa); clear hcv)
    | (go_at_call 22; refine (RHash_good R aZ wa Ga.out).mono ?_; rintro _ wb ⟨rfl, hTb, hrb⟩; rw [aH] at hrb; rw [aH1]; simp only at hrb; have hix := aIdx; have Gb := Lib.hid hrb; clear hrb)
    | (go_at_call 26; refine (Done_any R [] 0 wb Gb.out).eq.mono ?_; rintro _ wc ⟨rfl, hBc⟩; simp only [List.length_nil, Nat.lt_irrefl, if_false]; have Gc := Lib.hid (Gb.out.new hBc); clear hix)
    | (go_at_call 19; refine (RNum_good R [] wc Gc.out (by decide)).mono ?_; rintro _ wd ⟨rfl, hTd, hrd⟩; rw [aE] at hrd ⊢; simp only at hrd ⊢; have Gd := Lib.hid hrd; clear hrd)
    | (go_at_call 24; refine (Bad_any R [] 3 wd Gd.out).eq.mono ?_; rintro _ we ⟨rfl, hBe⟩))
  go_ret
  have hA : NewT w w6 := NewT.trans _ _ _ hN1 (NewT.trans _ _ _ hN2 (NewT.trans _ _ _ hW2 (NewT.trans _ _ _ hN3 (NewT.trans _ _ _ hN4 (NewT.trans _ _ _ (NewT.alloc _ _) (NewT.trans _ _ _ hN5 hN6))))))
  have hRw : w.heap.size ≤ R := by
    have := (NewT.trans _ _ _ hN1 (NewT.trans _ _ _ hN2 (NewT.trans _ _ _ hW2 (NewT.trans _ _ _ hN3 (NewT.trans _ _ _ hN4 (NewT.trans _ _ _ (NewT.alloc _ _) hN5)))))).out.size
    omega
  have hB : RT R w6 we := RT.trans _ _ _ hT7 (RT.trans _ _ _ hT8 (RT.trans _ _ _ hT9 (RT.trans _ _ _ (RT.new G9.out.lt hBa) (RT.trans _ _ _ hTb (RT.trans _ _ _ (RT.new Gb.out.lt hBc) (RT.trans _ _ _ hTd (RT.new Gd.out.lt hBe)))))))
  exact ⟨rfl, hA.out.trans (hB.below.mono hRw)⟩
end Go.Proofs.Yteelddmegmojpaa
