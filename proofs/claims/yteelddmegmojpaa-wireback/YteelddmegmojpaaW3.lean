/- What puts: Flag, All, Bytes, Hash; Clone; a new reader. -/
import Derived.Test.YteelddmegmojpaaW2
namespace Go.Proofs.Yteelddmegmojpaa
open Go Go.RowKit

theorem rdN_own {W w : World} {v : Value} {n : Nat} {l : List UInt8} (h : w.ownsRow W.heap.size 5 1 v n (l.map fun b => .int .u8 (bN b))) (hl : l.length = n) : (svRdN W l).pred v w :=
  fun _ hL => rdV_own h hl hL
theorem svRdN_rd {W w : World} {v : Value} {l : List UInt8} (h : (svRdN W l).pred v w) (L : List Nat) (hL : ∀ k ∈ L, k < W.heap.size) : RdV w L v l := h L hL
set_option maxHeartbeats 400000 in
theorem Flag_cv (b : Bool) (w : World) : Cv 13 #[.bool b] w (svRdN w [if b then 1 else 0]) := by
  unfold Cv
  have hr : ∀ x : UInt8, (w.alloc (.cells #[.int .u8 (bN x)] 5)).ownsRow w.heap.size 5 1 (.slice (some ⟨w.heap.size, 0, none⟩) 1 1) 1 ([x].map fun b => .int .u8 (bN b)) := fun x => by
    have := ownsRow_row (rowIs_box w 5 1 (fun _ => .int .u8 (bN x))) w.heap.size 1 (by omega) (by unfold maxLen; omega) (Nat.le_refl _)
    exact this
  have Hr := Lib.hid hr
  clear hr
  cases b
  · go_enter Try.func13, Try.ntmps13
    go_wp2
    go_ret
    exact ⟨_, rfl, NewT.alloc _ _, rdN_own (Hr.out 0) rfl⟩
  · go_enter Try.func13, Try.ntmps13
    go_wp2
    go_ret
    exact ⟨_, rfl, NewT.alloc _ _, rdN_own (Hr.out 1) rfl⟩
theorem flat_take_succ (ps : List (Value × List UInt8)) (k : Nat) (x : Value × List UInt8) (h : ps[k]? = some x) : flat (ps.take (k + 1)) = flat (ps.take k) ++ x.2 := by
  rw [List.take_add_one, h]; exact flat_snoc _ _
theorem flat_take_le (ps : List (Value × List UInt8)) (k : Nat) : (flat (ps.take k)).length ≤ (flat ps).length := by
  have e : flat ps = flat (ps.take k) ++ flat (ps.drop k) := by
    unfold flat; rw [← List.flatten_append, ← List.map_append, List.take_append_drop]
  rw [e]; simp
set_option maxHeartbeats 1000000 in
theorem All_any (pv : Value) (ps : List (Value × List UInt8)) (w : World) (hp : PartsAt w [] pv ps) (ht : (flat ps).length ≤ 1000000) : Cv 18 #[pv] w (svRdN w (flat ps)) := by
  unfold Cv
  obtain ⟨A, cap, rfl, h1, h2, h3, h4⟩ := hp
  have H3 := Lib.hid h3
  have H4 := Lib.hid h4
  clear h3 h4
  unfold maxLen at h2
  obtain ⟨i0, hi, hz0, hz1, hz2⟩ := info_parts info5
  generalize hn : ps.length = n at *
  go_enter Try.func18, Try.ntmps18
  go_wp2
  go_loopw [3, 8] (fun v i wr => ∃ k : Nat, k ≤ n ∧ i = .int .i64 k ∧ wr.ownsRow w.heap.size 5 1 v (flat (ps.take k)).length ((flat (ps.take k)).map fun b => .int .u8 (bN b)) ∧ Below w.heap.size w wr) (fun _ i _ => n - (intOf i).toNat)
  case atStart => exact ⟨0, by omega, rfl, World.ownsRow_nil _ _ _ _, Below.refl _ _⟩
  case round =>
    obtain ⟨k, hk, rfl, hown, qB⟩ := hrel
    by_cases hlt : k < n
    · obtain ⟨b, o, rfl, _, hcells⟩ := H3.out (by omega)
      have hx : ps[k]? = some ps[k] := List.getElem?_eq_getElem (by omega)
      have hc := (KeepBut.below (L := []) qB).cell (a := ⟨b, o + k, none⟩) (by simp) (hcells k _ hx)
      have hrd := (H4.out ps[k] (List.getElem_mem (by omega))).keep (KeepBut.below qB)
      have hfs := flat_take_succ ps k _ hx
      have hfl := flat_take_le ps (k + 1)
      rw [hfs, List.length_append] at hfl
      generalize ps[k] = x at hc hrd hfs hfl
      have Hfs := Lib.hid hfs
      have Hrd := Lib.hid hrd
      clear hfs hrd hx hcells
      generalize hm : (flat (ps.take k)).length = m at hown hfl
      go_wp2_with (at_builtin; refine wpList_append_rd rfl (.tmp 12) (.tmp 13) 22 rfl (base := w.heap.size) Try.underlying22 hi hz0 hz1 hz2 rfl hown rfl Hrd.out (by omega) qB.size ?_; intro v2 w2 o2 grow2)
      go_roundw
      case rel =>
        refine ⟨k + 1, by omega, by go_num, ?_, qB.grown grow2 qB.size (fun k e => (hown.lt k e).1)⟩
        rw [Hfs.out, List.length_append, List.map_append, hm]; exact o2
      case measure => simp [intOf]; omega
    · obtain rfl : k = n := by omega
      rw [← hn, List.take_length] at hown
      go_wp2
      go_ret
      exact ⟨_, rfl, qB, rdN_own hown rfl⟩
theorem All_cv (pv : Value) (ls : List (List UInt8)) (l : List UInt8) (w : World) (hp : Parts w pv ls) (hl : ls.flatten = l) (ht : l.length ≤ 1000000) : Cv 18 #[pv] w (svRdN w l) := by
  obtain ⟨ps, hp, rfl⟩ := hp
  subst hl
  exact All_any pv ps w hp ht
end Go.Proofs.Yteelddmegmojpaa
