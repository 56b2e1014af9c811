/- The reference's Num and Bytes, layer 3. -/
import Derived.Test.YteelddmegmojpaaWA
import Derived.Test.YteelddmegmojpaaCB
namespace Go.Proofs.Yteelddmegmojpaa
open Go Go.RowKit

/-- The last place of a row of the call's own is written. -/
theorem ownsRow_last {w : World} {base g n cap : Nat} {e : TypeId} {xs : List Value} {u : Value} (h : w.ownsRow base e 1 (.slice (some ⟨g, 0, none⟩) (n + 1) cap) (n + 1) (xs ++ [u])) (u' : Value) :
    (w.setCell ⟨g, n, none⟩ u').ownsRow base e 1 (.slice (some ⟨g, 0, none⟩) (n + 1) cap) (n + 1) (xs ++ [u']) := by
  obtain ⟨h1, h2⟩ := h
  have hx : xs.length = n := by simpa using h1
  rcases h2 with ⟨h, _⟩ | ⟨g', cap', cur, hv, hb, hh, hnc, hm, hs, ht⟩
  · cases h
  · cases hv
    refine ⟨by simpa using hx, .inr ⟨g, cap, cur.setIfInBounds n u', rfl, hb, by simp [World.setCell, Array.getElem?_modify, hh], hnc, hm, by simpa using hs, ?_⟩⟩
    have e1 : cur.toList.take n = xs := by
      have := congrArg (List.take n) ht
      rw [List.take_take, Nat.min_eq_left (by omega)] at this
      rw [this, List.take_append_of_le_length (by omega)]
      exact List.take_of_length_le (by omega)
    have hlt : n < cur.toList.length := by simp; omega
    rw [Nat.mul_one, Array.toList_setIfInBounds, List.take_add_one, List.take_set_of_le (Nat.le_refl _), e1]
    simp [show n < cur.size by omega]
theorem frozen_own {w : World} {base g n cap : Nat} {e : TypeId} {xs : List Value} (h : w.ownsRow base e 1 (.slice (some ⟨g, 0, none⟩) n cap) n xs) (i : Nat) : w.frozen? ⟨g, i, none⟩ = false := by
  obtain ⟨_, h2⟩ := h
  rcases h2 with ⟨h, _⟩ | ⟨g', cap', cur, hv, _, hh, _⟩
  · cases h
  · cases hv; simp [World.frozen?, hh]
theorem bN_uB (n : Nat) (h : n < 256) : bN (uB n) = (n : Int) := by rw [bN, toNat_uB]; omega
set_option maxRecDepth 20000 in
set_option maxHeartbeats 2000000 in
theorem RefNum_in (n : Nat) (hn : n ≤ 2147483647) (w : World) : Calls Try.prog 12 #[.int .i64 (n : Int)] w fun e w' => ∃ v, e = .returned v ∧ Below w.heap.size w w' ∧ w'.ownsRow w.heap.size 5 1 v (numL n).length ((numL n).map fun b => .int .u8 (bN b)) := by
  induction n using Nat.strongRecOn generalizing w with
  | _ n ih =>
    by_cases h1 : n < 128
    · have e1 : numL n = [uB n] := by unfold numL; rw [if_pos h1]
      have eb := bN_uB n (by omega)
      have ho := ownsRow_row (rowIs_box w 5 1 (fun _ => .int .u8 (n : Int))) w.heap.size 1 (by omega) (by unfold maxLen; omega) (Nat.le_refl _)
      have hN : NewT w (w.alloc (.cells (rowA 1 (fun _ => .int .u8 (n : Int))) 5)) := NewT.alloc _ _
      rw [e1]
      simp only [List.length_cons, List.length_nil, List.map_cons, List.map_nil, eb]
      clear ih e1 eb
      go_enter Try.func12, Try.ntmps12
      go_wp2_with fail
      go_ret
      exact ⟨_, rfl, hN.out, ho⟩
    · obtain ⟨init, x, hx, e1, e2⟩ := numL_step n hn (by omega)
      have hw := bN_uB (x + 128) (by omega)
      have hw2 := bN_uB (n % 128) (by omega)
      have hxb := bN_uB x (by omega)
      obtain ⟨i0, hi, hz0, hz1, hz2⟩ := info_parts info5
      have H1 := Lib.hid e1
      have H2 := Lib.hid e2
      have hil : init.length ≤ 5 := by have := numL_length (n / 128); rw [e1] at this; have := sz_le (n / 128); simp at *; omega
      have IH := Lib.hid (fun w => ih (n / 128) (by omega) (by omega) w)
      have W1 := Lib.hid hw
      have W2 := Lib.hid hw2
      have W3 := Lib.hid hxb
      clear ih e1 e2 hw hw2 hxb
      generalize hil2 : init.length = m at hil
      have Hil := Lib.hid hil2
      clear hil2
      go_enter Try.func12, Try.ntmps12
      go_wp2_with (first
        | (go_at_call 12; refine (IH.out w).mono ?_; rintro _ w1 ⟨v1, rfl, hB1, ho1⟩; rw [H1.out, List.length_append, Hil.out, List.map_append] at ho1; simp only [List.length_cons, List.length_nil, List.map_cons, List.map_nil, W3.out, Nat.zero_add] at ho1; obtain ⟨g, c, rfl, hg, _⟩ := ho1.form (by omega); have k0 := ho1.cells (g := g) rfl m (.int .u8 (x : Int)) (by rw [List.getElem?_append_right (by simp [Hil.out])]; simp [Hil.out]); rw [Addr.add_mid, Nat.zero_add] at k0; have f0 := frozen_own ho1 m)
        | (at_builtin; refine wpList_append_own _ rfl (.tmp 30) (.tmp 34) 22 rfl w.heap.size 5 i0 _ 1 1 Try.underlying22 hi hz0 hz1 hz2 rfl (by omega) _ (m + 1) _ rfl ((ownsRow_last ho1 (.int .u8 ((x : Int) + 128))).alloc _) ⟨w1.heap.size, 0, none⟩ 1 1 [.int .u8 ((n : Int) % 128)] rfl rfl (fun j u h => by have := one_cell (w1.setCell ⟨g, m, none⟩ (.int .u8 ((x : Int) + 128))) (.int .u8 ((n : Int) % 128)) 5 j u h; simpa using this) (by simp [Value.oneCell']) (by unfold maxLen; omega) (by omega) (by have := hB1.size; simp; omega) ?_; intro v' w2 hown' hg2 _))
      go_ret
      refine ⟨_, rfl, ?_, ?_⟩
      · exact ((hB1.setCell (p := ⟨g, m, none⟩) hg _).alloc (by have := hB1.size; simp; omega) _).grown hg2 (by have := hB1.size; simp; omega) (fun k e => by cases e; exact hg)
      · rw [H2.out]
        have e : (init ++ [uB (x + 128), uB (n % 128)]).length = m + 1 + 1 := by simp [Hil.out]
        rw [e, List.map_append]
        simp only [List.map_cons, List.map_nil, W1.out, W2.out]
        simpa using hown'
set_option maxRecDepth 20000 in
set_option maxHeartbeats 400000 in
theorem RefNum_out (n : Int) (hn : ¬ (0 ≤ n ∧ n ≤ 2147483647)) (w : World) : Calls Try.prog 12 #[.int .i64 n] w fun e w' => e = .returned (.slice none 0 0) ∧ w' = w := by
  by_cases h0 : n < 0
  · go_enter Try.func12, Try.ntmps12
    go_wp2_with fail
    go_ret
    exact ⟨rfl, rfl⟩
  · have h1 : 2147483647 < n := by omega
    clear hn
    go_enter Try.func12, Try.ntmps12
    go_wp2_with fail
    go_ret
    exact ⟨rfl, rfl⟩
theorem RefNum_rd (n : Int) (l : List UInt8) (w : World) (h : numI n = l) : Cv 12 #[.int .i64 n] w (svRd l) := by
  subst h
  unfold numI Cv
  by_cases h : 0 ≤ n ∧ n ≤ 2147483647
  · rw [if_pos h]
    obtain ⟨m, rfl⟩ := Int.eq_ofNat_of_zero_le h.1
    exact (RefNum_in m (by omega) w).mono fun _ _ ⟨v, he, hB, ho⟩ => ⟨v, he, hB, rdV_own ho rfl (by simp)⟩
  · rw [if_neg h]
    exact (RefNum_out n h w).mono fun _ _ ⟨he, hw⟩ => ⟨_, he, NewT.of_eq hw.symm, rdV_nil _ _⟩
set_option maxHeartbeats 1000000 in
theorem RefBytes_rd (v : Value) (l : List UInt8) (w : World) (h : RdV w [] v l) (hl : l.length ≤ 900000) : Cv 15 #[v] w (svRd (numL l.length ++ l)) := by
  unfold Cv
  have Hr := Lib.hid h
  obtain ⟨A, cap, rfl, h1, h2, _⟩ := h
  have h5 : (numL l.length).length ≤ 5 := by rw [numL_length]; exact sz_le _
  obtain ⟨i0, hi, hz0, hz1, hz2⟩ := info_parts info5
  go_enter Try.func15, Try.ntmps15
  go_wp2_with (first
    | (go_at_call 12; refine (RefNum_in l.length (by omega) w).mono ?_; rintro _ w1 ⟨v1, rfl, hB1, ho1⟩)
    | (at_builtin; refine wpList_append_rd rfl (.tmp 5) (.tmp 6) 22 rfl (base := w.heap.size) Try.underlying22 hi hz0 hz1 hz2 rfl ho1 rfl (Hr.out.keep (KeepBut.below hB1)) (by omega) hB1.size ?_; intro v2 w2 o2 grow2))
  go_ret
  refine ⟨_, rfl, hB1.grown grow2 hB1.size (fun k e => (ho1.lt k e).1), ?_⟩
  rw [← List.map_append] at o2
  exact rdV_own o2 (by simp) (by simp)
theorem Bytes_true (v1 v2 : Value) (l : List UInt8) (w : World) (h1 : RdV w [] v1 l) (h2 : RdV w [] v2 l) (hl : l.length ≤ 1000000) : Cv 10 #[v1, v2] w (.eq (.bool true)) := by
  have := Bytes_cv v1 v2 l l w h1 h2 hl hl
  simpa using this
theorem Num_rd (n : Int) (l : List UInt8) (w : World) (h : numI n = l) : Cv 11 #[.int .i64 n] w (svRd l) :=
  Calls.mono (Num_cv n w) fun _ _ ⟨v, he, hN, hv⟩ => ⟨v, he, hN, by rw [h] at hv; exact hv [] (by simp)⟩
theorem Flag_rd (b : Bool) (l : List UInt8) (w : World) (h : [cond b 1 0] = l) : Cv 13 #[.bool b] w (svRd l) :=
  Calls.mono (Flag_cv b w) fun _ _ ⟨v, he, hN, hv⟩ => ⟨v, he, hN, by rw [show [if b then (1 : UInt8) else 0] = l by rw [← h]; cases b <;> rfl] at hv; exact hv [] (by simp)⟩
theorem WBytes_rd (v : Value) (l z : List UInt8) (w : World) (h : RdV w [] v l) (hl : l.length ≤ 900000) (hz : numL l.length ++ l = z) : Cv 14 #[v] w (svRd z) :=
  Calls.mono (WBytes_cv v l w h hl) fun _ _ ⟨v, he, hN, hv⟩ => ⟨v, he, hN, by rw [hz] at hv; exact hv [] (by simp)⟩
theorem RefBytes_cv (v : Value) (l z : List UInt8) (w : World) (h : RdV w [] v l) (hl : l.length ≤ 900000) (hz : numL l.length ++ l = z) : Cv 15 #[v] w (svRd z) := hz ▸ RefBytes_rd v l w h hl
theorem WHash_rd (d : Nat → UInt8) (w : World) : Cv 16 #[.agg (rowA 32 (bF d))] w (svRd (digL d)) :=
  Calls.mono (WHash_cv d w) fun _ _ ⟨v, he, hN, hv⟩ => ⟨v, he, hN, hv [] (by simp)⟩
end Go.Proofs.Yteelddmegmojpaa
