/- Package mac: parts behind their lengths, words as bytes, and the texts that are put together of them. -/
import Derived.Test.YtpoebajpmkcjdaaDoorM4
namespace Go.Proofs.YtpoebajpmkcjdaaDoor
open Go Go.RowKit

/-- A number of 64 bits, as it lies in memory (two's complement). -/
def wN (n : Int) : Nat := (n % 18446744073709551616).toNat
theorem wN_eq (n : Int) : IntKind.u64.wrap n = (wN n : Int) := by rw [wrap_u64, wN]; omega
theorem wN_nat (n : Nat) (h : n < 18446744073709551616) : wN (n : Int) = n := by unfold wN; omega
set_option maxHeartbeats 1000000 in
theorem countedPart_any (v u : Value) (base : Nat) (ls : List (List UInt8)) (l : List UInt8) (w : World) (hp : Pcs w base v ls) (hb : base ≤ w.heap.size) (hu : RdV w v.ownBlock.toList u l) (hlen : ls.length ≤ 900000) :
    Calls Tryd.prog 49 #[v, u] w fun e w' => ∃ v', e = .returned v' ∧ Pcs w' base v' (ls ++ [hiL l.length 4, l]) ∧ Below base w w' := by
  obtain ⟨A, c, rfl, hlc, hcm, h0⟩ := hu
  have hu : RdV w v.ownBlock.toList (.slice A l.length c) l := ⟨A, c, rfl, hlc, hcm, h0⟩
  have hcm' := hcm
  unfold maxLen at hcm'
  have hw : IntKind.u64.wrap (l.length : Int) = (l.length : Int) := by rw [wN_eq, wN_nat _ (by omega)]
  have Hp := Lib.hid hp
  have Hu := Lib.hid hu
  clear h0 hlc hcm hcm' hp hu
  go_enter Tryd.func49, Tryd.ntmps49
  go_upto_region 1 with fail
  refine wp_region_lit ?_
  iterate 4 (refine wpList_plain rfl (fun K hK => ?_); go_simp; refine hK _ _ ?_; clear hK K)
  refine wpList_plain rfl (fun K hK => ?_)
  refine opr_cv (hiF_4 l.length w) rfl Tryd.func60 (by kernel_rfl) (by kernel_rfl) (by simp only [List.map_toArray, List.map_cons, List.map_nil]; rfl) ?_
  intro hv w1 hN1 hnew
  refine hK _ _ ?_
  clear hK K hw
  have hr9 := hnew v.ownBlock.toList (fun k hk => (Hp.out.own_lt k (by simpa using hk)).1)
  replace Hp := Lib.hid (Hp.out.new hN1)
  replace Hu := Lib.hid (hN1.rd Hu.out)
  obtain ⟨A9, c9, rfl, h9⟩ := hr9
  have hr9 : RdV w1 v.ownBlock.toList (.slice A9 (hiL l.length 4).length c9) (hiL l.length 4) := ⟨A9, c9, rfl, h9⟩
  have Hr9 := Lib.hid hr9
  clear hr9 h9 hnew
  have hb1 : base ≤ w1.heap.size := Nat.le_trans hb hN1.out.size
  have hN := NewT.alloc w1 (.cells #[.slice A9 (hiL l.length 4).length c9, .slice A l.length c] 24)
  have hrun := run_append_pcs (Hp.out.new hN) (Nat.le_trans hb1 hN.out.size) [(.slice A9 (hiL l.length 4).length c9, hiL l.length 4), (.slice A l.length c, l)] (by simp only [List.mem_cons, List.not_mem_nil, or_false]; intro x hx; rcases hx with rfl | rfl; (exact hN.rd Hr9.out); (exact hN.rd Hu.out)) w1.heap.size 2 (fun j x hx => by
    match j, hx with
    | 0, hx => simp at hx; subst hx; rw [cell_new_fr _ _ _ _ _ _ rfl]; rfl
    | 1, hx => simp at hx; subst hx; rw [cell_new_fr _ _ _ _ _ _ rfl]; rfl) (by simp; omega) 41
  obtain ⟨v', w', hr, hp', hgr⟩ := hrun
  have hB : Below base w w' := (hN1.out.mono hb).trans (((Below.refl base w1).alloc hb1 _).trans ((Hp.out.new hN).below hgr (Nat.le_trans hb1 hN.out.size)))
  have Hp' := Lib.hid hp'
  have HB := Lib.hid hB
  clear hp' hB hgr hN Hp Hu Hr9
  simp only [List.length_cons, List.length_nil, Nat.zero_add, Nat.reduceAdd] at hr
  iterate 2 (refine wpList_plain rfl (fun K hK => ?_); go_simp; refine hK _ _ ?_; clear hK K)
  refine wpList_plain rfl (fun K hK => ?_)
  refine opr_append rfl rfl rfl hr (hK _ _ ?_)
  clear hr hK K
  refine wpList_plain rfl (fun K hK => ?_)
  refine opr_move (.inr rfl) (hK _ _ ?_)
  clear hK K
  refine wpList_nil ?_
  go_simp
  go_wp2
  go_ret
  exact ⟨v', rfl, Hp'.out, HB.out⟩
set_option maxHeartbeats 1000000 in
theorem wordPart_any (v : Value) (n : Int) (base : Nat) (ls : List (List UInt8)) (w : World) (hp : Pcs w base v ls) (hb : base ≤ w.heap.size) (hlen : ls.length ≤ 900000) :
    Calls Tryd.prog 51 #[v, .int .i64 n] w fun e w' => ∃ v', e = .returned v' ∧ Pcs w' base v' (ls ++ [hiL (wN n) 8]) ∧ Below base w w' := by
  have hw : IntKind.u64.wrap n = (wN n : Int) := wN_eq n
  have Hp := Lib.hid hp
  clear hp
  go_enter Tryd.func51, Tryd.ntmps51
  go_upto_region 1 with fail
  refine wp_region_lit ?_
  iterate 3 (refine wpList_plain rfl (fun K hK => ?_); go_simp; refine hK _ _ ?_; clear hK K)
  refine wpList_plain rfl (fun K hK => ?_)
  refine opr_cv (hiF_8 (wN n) w) rfl Tryd.func60 (by kernel_rfl) (by kernel_rfl) (by simp only [List.map_toArray, List.map_cons, List.map_nil]; rfl) ?_
  intro hv w1 hN1 hnew
  refine hK _ _ ?_
  clear hK K hw
  have hr9 := hnew v.ownBlock.toList (fun k hk => (Hp.out.own_lt k (by simpa using hk)).1)
  replace Hp := Lib.hid (Hp.out.new hN1)
  obtain ⟨A9, c9, rfl, h9⟩ := hr9
  have hr9 : RdV w1 v.ownBlock.toList (.slice A9 (hiL (wN n) 8).length c9) (hiL (wN n) 8) := ⟨A9, c9, rfl, h9⟩
  have Hr9 := Lib.hid hr9
  clear hr9 h9 hnew
  have hb1 : base ≤ w1.heap.size := Nat.le_trans hb hN1.out.size
  have hN := NewT.alloc w1 (.cells #[.slice A9 (hiL (wN n) 8).length c9] 24)
  have hrun := run_append_pcs (Hp.out.new hN) (Nat.le_trans hb1 hN.out.size) [(.slice A9 (hiL (wN n) 8).length c9, hiL (wN n) 8)] (by simpa using hN.rd Hr9.out) w1.heap.size 1 (fun j x hx => by
    match j, hx with
    | 0, hx => simp at hx; subst hx; rw [cell_new_fr _ _ _ _ _ _ rfl]; rfl) (by simp; omega) 41
  obtain ⟨v', w', hr, hp', hgr⟩ := hrun
  have hB : Below base w w' := (hN1.out.mono hb).trans (((Below.refl base w1).alloc hb1 _).trans ((Hp.out.new hN).below hgr (Nat.le_trans hb1 hN.out.size)))
  have Hp' := Lib.hid hp'
  have HB := Lib.hid hB
  clear hp' hB hgr hN Hp Hr9
  simp only [List.length_cons, List.length_nil, Nat.zero_add] at hr
  iterate 1 (refine wpList_plain rfl (fun K hK => ?_); go_simp; refine hK _ _ ?_; clear hK K)
  refine wpList_plain rfl (fun K hK => ?_)
  refine opr_append rfl rfl rfl hr (hK _ _ ?_)
  clear hr hK K
  refine wpList_plain rfl (fun K hK => ?_)
  refine opr_move (.inr rfl) (hK _ _ ?_)
  clear hK K
  refine wpList_nil ?_
  go_simp
  go_wp2
  go_ret
  exact ⟨v', rfl, Hp'.out, HB.out⟩
end Go.Proofs.YtpoebajpmkcjdaaDoor
