/- The reference's Bytes, at whatever lists. -/
import Derived.Test.YteelddmegmojpaaCore2
namespace Go.Proofs.Yteelddmegmojpaa
open Go Go.RowKit
theorem rd_cells {W : World} {A : Option Addr} {n c : Nat} {l : List UInt8} (h : RdV W [] (.slice A n c) l) : l.length = n ∧ ∀ i, i < n → ∃ b o, A = some ⟨b, o, none⟩ ∧ ∀ j, j < n → W.cell? ⟨b, o + j, none⟩ = some (.int .u8 (bN (bAt l j))) := by
  obtain ⟨A', c', hv, _, _, hc⟩ := h
  cases hv
  refine ⟨rfl, fun i hi => ?_⟩
  obtain ⟨b, o, h1, _, h2⟩ := hc (by omega)
  exact ⟨b, o, h1, h2⟩
/-- The same up to a place. -/
def sameTo (l m : List UInt8) (k : Nat) : Prop := ∀ i, i < k → bAt l i = bAt m i
theorem eq_of_sameTo {l m : List UInt8} (hl : l.length = m.length) (h : sameTo l m l.length) : l = m := by
  apply List.ext_getElem hl
  intro i h1 h2
  have := h i h1
  simpa [bAt, h1, h2] using this
set_option maxHeartbeats 1000000 in
theorem Bytes_any (A1 A2 : Option Addr) (n1 c1 n2 c2 : Nat) (l m : List UInt8) (w : World) (h1 : RdV w [] (.slice A1 n1 c1) l) (h2 : RdV w [] (.slice A2 n2 c2) m) (hn1 : n1 ≤ 1000000) (hn2 : n2 ≤ 1000000) :
    Cv 10 #[.slice A1 n1 c1, .slice A2 n2 c2] w (.eq (.bool (decide (l = m)))) := by
  unfold Cv
  obtain ⟨e1, k1⟩ := rd_cells h1
  obtain ⟨e2, k2⟩ := rd_cells h2
  have E1 := Lib.hid e1
  have E2 := Lib.hid e2
  have H1 := Lib.hid k1
  have H2 := Lib.hid k2
  clear h1 h2 e1 e2 k1 k2
  by_cases hne : n1 = n2
  · subst hne
    go_enter Try.func10, Try.ntmps10
    go_wp2
    go_loopw [5] (fun i wr => ∃ k : Nat, k ≤ n1 ∧ i = .int .i64 k ∧ Hid (sameTo l m k) ∧ Hid (∀ a, wr.cell? a = w.cell? a) ∧ Below w.heap.size w wr) (fun i _ => n1 - (intOf i).toNat)
    case atStart => exact ⟨0, by omega, rfl, Lib.hid (fun i hi => by omega), Lib.hid (fun _ => rfl), Below.refl _ _⟩
    case round =>
      obtain ⟨k, hk, rfl, Hs, Hcell, qB⟩ := hrel
      by_cases hlt : k < n1
      · obtain ⟨b1, o1, rfl, j1⟩ := H1.out k hlt
        obtain ⟨b2, o2, rfl, j2⟩ := H2.out k hlt
        have c1' := (Hcell.out ⟨b1, o1 + k, none⟩).trans (j1 k hlt)
        have c2' := (Hcell.out ⟨b2, o2 + k, none⟩).trans (j2 k hlt)
        have it : (k : Int) < (n1 : Int) := by omega
        clear j1 j2
        by_cases hb : bAt l k = bAt m k
        · have hq : (bN (bAt l k) != bN (bAt m k)) = false := by rw [hb]; simp
          have Hb := Lib.hid hb
          clear hb
          generalize hx : bN (bAt l k) = x at c1' hq
          generalize hy : bN (bAt m k) = y at c2' hq
          clear hx hy
          go_wp2
          refine wp_region_still_lit (by kernel_rfl) (by kernel_rfl) ?_
          repeat (refine wpStill_step (fun K hK => ?_); go_simp; (try go_bits); refine hK _ ?_; clear hK K)
          refine wpStill_nil ?_
          go_wp2
          go_roundw
          case rel => exact ⟨k + 1, by omega, by go_num, Lib.hid (fun i hi => by
            rcases Nat.lt_succ_iff_lt_or_eq.1 hi with h | rfl
            · exact Hs.out i h
            · exact Hb.out), Lib.hid (fun a => Hcell.out a), qB.drew⟩
          case measure => simp [intOf]; omega
        · have hq : (bN (bAt l k) != bN (bAt m k)) = true := by simpa using fun h => hb (bN_inj h)
          have Hb := Lib.hid hb
          clear hb
          generalize hx : bN (bAt l k) = x at c1' hq
          generalize hy : bN (bAt m k) = y at c2' hq
          clear hx hy
          go_wp2
          refine wp_region_still_lit (by kernel_rfl) (by kernel_rfl) ?_
          repeat (refine wpStill_step (fun K hK => ?_); go_simp; (try go_bits); refine hK _ ?_; clear hK K)
          refine wpStill_nil ?_
          go_wp2
          go_ret
          refine ⟨_, rfl, qB.drew, ?_⟩
          show Value.bool false = _
          congr 1
          exact (decide_eq_false fun h => Hb.out (by rw [h])).symm
      · obtain rfl : k = n1 := by omega
        go_wp2
        go_ret
        refine ⟨_, rfl, qB, ?_⟩
        show Value.bool true = _
        congr 1
        exact (decide_eq_true (eq_of_sameTo (E1.out.trans E2.out.symm) (by rw [E1.out]; exact Hs.out))).symm
  · have hq : ((n1 : Int) != (n2 : Int)) = true := by simp; omega
    have hq2 : (n1 != n2) = true := by simpa using hne
    go_enter Try.func10, Try.ntmps10
    go_wp2
    go_ret
    refine ⟨_, rfl, Below.refl _ _, ?_⟩
    show Value.bool false = _
    congr 1
    exact (decide_eq_false fun h => hne (by rw [← E1.out, ← E2.out, h])).symm
theorem Bytes_cv (v1 v2 : Value) (l m : List UInt8) (w : World) (h1 : RdV w [] v1 l) (h2 : RdV w [] v2 m) (hl : l.length ≤ 1000000) (hm : m.length ≤ 1000000) :
    Cv 10 #[v1, v2] w (.eq (.bool (decide (l = m)))) := by
  have g1 := h1
  have g2 := h2
  obtain ⟨A1, c1, rfl, _⟩ := g1
  obtain ⟨A2, c2, rfl, _⟩ := g2
  exact Bytes_any A1 A2 _ c1 _ c2 l m w h1 h2 hl hm
end Go.Proofs.Yteelddmegmojpaa
