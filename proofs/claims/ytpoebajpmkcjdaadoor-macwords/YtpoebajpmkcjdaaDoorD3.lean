import Derived.Test.YtpoebajpmkcjdaaDoorC2
import Derived.Test.YtpoebajpmkcjdaaDoorApp
namespace Go.Proofs.YtpoebajpmkcjdaaDoor
open Go.RowKit

theorem rdV_form {W : World} {L : List Nat} {v : Value} {l : List UInt8} (h : RdV W L v l) : ∃ A cap, v = .slice A l.length cap := by
  obtain ⟨A, cap, h, _⟩ := h; exact ⟨A, cap, h⟩
theorem Sum_new (ps : List (Value × List UInt8)) (D : Nat → UInt8) (W : World) (hT : Tables W) (h : ∀ x ∈ ps, RdV W [] x.1 x.2) (hl : ps.length ≤ 1000) (ht : total ps ≤ 4611686018427387904) (hD : shaL Kc Fc (flat ps) = D) :
    Calls Tryd.prog 21 #[.slice (some ⟨W.heap.size, 0, none⟩) ps.length ps.length] (W.alloc (.cells (ps.map (·.1)).toArray 24)) fun e w' => e = .returned (.agg (rowA 32 (bF D))) ∧ Below W.heap.size W w' := by
  have hB := (Below.refl _ W).alloc (Nat.le_refl _) (.cells (ps.map (·.1)).toArray 24)
  refine (Sum_c _ ps _ (hT.below hB) (parts_new ps 24 (by simp) hl h) ht).mono ?_
  rintro e w' ⟨rfl, hb⟩
  rw [hD]
  exact ⟨rfl, hB.trans (hb.mono hB.size)⟩
theorem info5s : (Tryd.prog.info? 5).map (·.size) = some 1 := by kernel_rfl
theorem eql_hash (w : World) (d : Nat → UInt8) : (binOp .eql 31 (.agg (rowA 32 (bF d))) (.agg (rowA 32 (bF d)))).run Tryd.prog w = .ok (.bool true) w :=
  eql_same w 31 5 32 .u8 Tryd.underlying31 Tryd.underlying5 info5s (fun i => bN (d i))
theorem equal_hash (w : World) (d : Nat → UInt8) : (Op.equalIn 10000 31 (.agg (rowA 32 (bF d))) (.agg (rowA 32 (bF d)))).run Tryd.prog w = .ok true w :=
  equalIn_same w 9998 31 5 32 .u8 Tryd.underlying31 Tryd.underlying5 info5s (fun i => bN (d i))
attribute [local go_sem] eql_hash equal_hash
set_option maxHeartbeats 2000000 in
theorem ShaParts_walk (va vb vc : Value) (la lb lc : List UInt8) (w : World) (hT : Tables w) (ha : RdV w [] va la) (hb : RdV w [] vb lb) (hc : RdV w [] vc lc) :
    Calls Tryd.prog 5 #[va, vb, vc] w fun e w' => e = .returned (.bool true) ∧ Below w.heap.size w w' := by
  have HT := Lib.hid hT
  have Ha := Lib.hid ha
  have Hb := Lib.hid hb
  have Hc := Lib.hid hc
  obtain ⟨Aa, ca, rfl⟩ := rdV_form ha
  obtain ⟨Ab, cb, rfl⟩ := rdV_form hb
  obtain ⟨Ac, cc, rfl⟩ := rdV_form hc
  clear hT ha hb hc
  generalize hna : la.length = na
  generalize hnb : lb.length = nb
  generalize hnc : lc.length = nc
  by_cases g1 : 300 < na
  · go_enter Tryd.func5, Tryd.ntmps5
    go_wp2_with fail
    refine (alive_any w HT.out).mono ?_
    rintro e w1 ⟨rfl, hB⟩
    go_wp2
    go_ret
    exact ⟨rfl, hB⟩
  by_cases g2 : 300 < nb
  · go_enter Tryd.func5, Tryd.ntmps5
    go_wp2_with fail
    refine (alive_any w HT.out).mono ?_
    rintro e w1 ⟨rfl, hB⟩
    go_wp2
    go_ret
    exact ⟨rfl, hB⟩
  by_cases g3 : 300 < nc
  · go_enter Tryd.func5, Tryd.ntmps5
    go_wp2_with fail
    refine (alive_any w HT.out).mono ?_
    rintro e w1 ⟨rfl, hB⟩
    go_wp2
    go_ret
    exact ⟨rfl, hB⟩
  rw [hna] at Ha
  rw [hnb] at Hb
  rw [hnc] at Hc
  go_enter Tryd.func5, Tryd.ntmps5
  go_wp2_with fail
  refine (alive_any w HT.out).mono ?_
  rintro e w1 ⟨rfl, hB⟩
  have Ra := Lib.hid (Ha.out.keep (KeepBut.below hB))
  have Rb := Lib.hid (Hb.out.keep (KeepBut.below hB))
  have Rc := Lib.hid (Hc.out.keep (KeepBut.below hB))
  clear Ha Hb Hc
  obtain ⟨i0, hi, hz0, hz1, hz2⟩ := info_parts info5
  obtain ⟨d, Hd⟩ : ∃ d, Hid (shaL Kc Fc (la ++ lb ++ lc) = d) := ⟨_, Lib.hid rfl⟩
  obtain ⟨S, HS⟩ : ∃ S : ByteArray, Hid (⟨(hexL d 32).toArray⟩ = S) := ⟨_, Lib.hid rfl⟩
  have hS : S.size = 64 := by rw [← HS.out]; show (hexL d 32).toArray.size = 64; simp [hexL_length]
  go_wp2_with (at_builtin; first
    | (refine wpList_append_rd rfl (.tmp 23) (.tmp 24) 24 rfl (base := w1.heap.size) Tryd.underlying24 hi hz0 hz1 hz2 rfl (World.ownsRow_nil _ _ _ _) rfl Ra.out (by omega) (Nat.le_refl _) ?_; intro v2 w2 o2 grow2
       have b2 : Below w1.heap.size w1 w2 := (Below.refl _ w1).grown grow2 (Nat.le_refl _) (fun k e => by cases e)
       have Rb2 := Lib.hid (Rb.out.keep (KeepBut.below b2))
       clear grow2)
    | (refine wpList_append_rd rfl (.tmp 26) (.tmp 27) 24 rfl (base := w1.heap.size) Tryd.underlying24 hi hz0 hz1 hz2 rfl o2 rfl Rb2.out (by omega) b2.size ?_; intro v3 w3 o3 grow3
       have b3 : Below w1.heap.size w1 w3 := b2.grown grow3 b2.size (fun k e => (o2.lt k e).1)
       have Rc3 := Lib.hid (Rc.out.keep (KeepBut.below b3))
       clear grow3 o2 Rb2)
    | (refine wpList_append_rd rfl (.tmp 29) (.tmp 30) 24 rfl (base := w1.heap.size) Tryd.underlying24 hi hz0 hz1 hz2 rfl o3 rfl Rc3.out (by omega) b3.size ?_; intro v4 w4 o4 grow4
       have b4 : Below w1.heap.size w1 w4 := b3.grown grow4 b3.size (fun k e => (o3.lt k e).1)
       clear grow4 o3 Rc3)
    )
  have Rall : Hid (RdV w4 [] v4 (la ++ lb ++ lc)) := Lib.hid (rdV_own (by simpa [List.map_append] using o4) (by simp; omega) (by simp))
  obtain ⟨A4, c4, hv4⟩ := rdV_form Rall.out
  generalize (la ++ lb ++ lc).length = n4 at hv4
  subst hv4
  have Ra4 := Lib.hid (Ra.out.keep (KeepBut.below b4))
  have Rb4 := Lib.hid (Rb.out.keep (KeepBut.below b4))
  have Rc4 := Lib.hid (Rc.out.keep (KeepBut.below b4))
  clear Ra Rb Rc o4 b2 b3
  replace hB := hB.trans (b4.mono hB.size)
  clear b4
  have ht3 : total [(Value.slice Aa na ca, la), (Value.slice Ab nb cb, lb), (Value.slice Ac nc cc, lc)] ≤ 4611686018427387904 := by simp [total]; omega
  have ht4 : total [(Value.slice Aa na ca, la), (Value.slice none 0 0, []), (Value.slice Ab nb cb, lb), (Value.slice Ac nc cc, lc)] ≤ 4611686018427387904 := by simp [total]; omega
  have ht1 : total [(Value.slice A4 n4 c4, la ++ lb ++ lc)] ≤ 4611686018427387904 := by simp [total]; omega
  refine (Sum_new [(.slice Aa na ca, la), (.slice Ab nb cb, lb), (.slice Ac nc cc, lc)] d w4 (HT.out.below hB) (by simp; exact ⟨Ra4.out, Rb4.out, Rc4.out⟩) (by simp) ht3 (by rw [← Hd.out]; simp [flat])).mono ?_
  rintro e w5 ⟨rfl, b5⟩
  replace hB := hB.trans (b5.mono hB.size)
  replace Rall := Lib.hid (Rall.out.keep (KeepBut.below b5))
  replace Ra4 := Lib.hid (Ra4.out.keep (KeepBut.below b5))
  replace Rb4 := Lib.hid (Rb4.out.keep (KeepBut.below b5))
  replace Rc4 := Lib.hid (Rc4.out.keep (KeepBut.below b5))
  clear b5
  go_wp2_with fail
  refine (Sum_new [(Value.slice A4 n4 c4, la ++ lb ++ lc)] d w5 (HT.out.below hB) (by simp [-List.append_assoc]; exact Rall.out) (by simp) ht1 (by rw [← Hd.out]; simp [flat])).mono ?_
  rintro e w6 ⟨rfl, b5⟩
  replace hB := hB.trans (b5.mono hB.size)
  replace Rall := Lib.hid (Rall.out.keep (KeepBut.below b5))
  replace Ra4 := Lib.hid (Ra4.out.keep (KeepBut.below b5))
  replace Rb4 := Lib.hid (Rb4.out.keep (KeepBut.below b5))
  replace Rc4 := Lib.hid (Rc4.out.keep (KeepBut.below b5))
  clear b5
  go_wp2_with fail
  refine (Sum_new [(.slice Aa na ca, la), (.slice none 0 0, []), (.slice Ab nb cb, lb), (.slice Ac nc cc, lc)] d w6 (HT.out.below hB) (by simp; exact ⟨Ra4.out, ⟨none, 0, rfl, by simp, by simp, fun h => absurd h (by simp)⟩, Rb4.out, Rc4.out⟩) (by simp) ht4 (by rw [← Hd.out]; simp [flat])).mono ?_
  rintro e w7 ⟨rfl, b5⟩
  replace hB := hB.trans (b5.mono hB.size)
  replace Rall := Lib.hid (Rall.out.keep (KeepBut.below b5))
  clear b5
  go_wp2_with fail
  refine (Sum_new [(Value.slice A4 n4 c4, la ++ lb ++ lc)] d w7 (HT.out.below hB) (by simp [-List.append_assoc]; exact Rall.out) (by simp) ht1 (by rw [← Hd.out]; simp [flat])).mono ?_
  rintro e w8 ⟨rfl, b5⟩
  replace hB := hB.trans (b5.mono hB.size)
  replace Rall := Lib.hid (Rall.out.keep (KeepBut.below b5))
  clear b5
  go_wp2_with fail
  refine (Sum_new [(Value.slice A4 n4 c4, la ++ lb ++ lc)] d w8 (HT.out.below hB) (by simp [-List.append_assoc]; exact Rall.out) (by simp) ht1 (by rw [← Hd.out]; simp [flat])).mono ?_
  rintro e w9 ⟨rfl, b5⟩
  replace hB := hB.trans (b5.mono hB.size)
  clear b5
  go_wp2_with fail
  refine (Hex_any d _).mono ?_
  rintro e w10 ⟨rfl, b5⟩
  replace hB := hB.trans (b5.mono hB.size)
  clear b5
  rw [HS.out]
  go_wp2
  go_ret
  exact ⟨rfl, hB⟩
end Go.Proofs.YtpoebajpmkcjdaaDoor
