/- WireMany, walked: numbers, one behind the other, are read as they were put. -/
import Derived.Test.YteelddmegmojpaaWR
import Derived.Test.YteelddmegmojpaaCI
import Derived.Test.YteelddmegmojpaaRelyP
namespace Go.Proofs.Yteelddmegmojpaa
open Go Go.RowKit

/-- Numbers' bytes, one behind the other. -/
def encL (is : List Int) : List UInt8 := is.flatMap numI
theorem encL_snoc (is : List Int) (x : Int) : encL (is ++ [x]) = encL is ++ numI x := by simp [encL]
theorem encL_length : ∀ is : List Int, (encL is).length ≤ 5 * is.length
  | [] => by simp [encL]
  | x :: r => by
    have h1 := numI_length x
    have h2 := encL_length r
    simp only [encL, List.flatMap_cons, List.length_append, List.length_cons] at h2 ⊢
    omega
theorem encL_cons (x : Int) (r : List Int) : encL (x :: r) = numI x ++ encL r := by simp [encL]
theorem drop_at (is : List Int) (j : Nat) (h : j < is.length) : is.drop j = is.getD j 0 :: is.drop (j + 1) := by
  rw [List.drop_eq_getElem_cons h]; simp [h]
theorem take_at (is : List Int) (j : Nat) (h : j < is.length) : is.take (j + 1) = is.take j ++ [is.getD j 0] := by
  rw [List.take_add_one, List.getElem?_eq_getElem h]; simp [h]
theorem outN_put (x : Nat) (hx : x ≤ 2147483647) (r : List UInt8) : outN (numL x ++ r) = (x, r, 0) := by
  unfold outN
  rw [goN_put x hx r]
  simp only [if_true]
  rw [← numL_length x]; simp
theorem ownsRow_newT {w w' : World} {base : Nat} {e : TypeId} {v : Value} {n : Nat} {xs : List Value} (h : w.ownsRow base e 1 v n xs) (hN : NewT w w') : w'.ownsRow base e 1 v n xs := by
  obtain ⟨h1, h2⟩ := h
  refine ⟨h1, ?_⟩
  rcases h2 with h | ⟨g, cap, cur, hv, hb, hh, r⟩
  · exact .inl h
  · exact .inr ⟨g, cap, cur, hv, hb, (hN.out.block g (Array.getElem?_eq_some_iff.1 hh).1).trans hh, r⟩
theorem info3s : (Try.prog.info? 3).map (·.size) = some 1 := by kernel_rfl
theorem run_idx (b o n cap j : Nat) (hj : j < n) (w : World) : (Instr.indexAt 44 (.slice (some ⟨b, o, none⟩) n cap) (.int .i64 (j : Int))).run Try.prog w = .ok (.pointer (some ⟨b, o + j, none⟩)) w := by
  have hsz : (sizeOf 3).run Try.prog w = .ok 1 w := by
    have hs := info3s
    cases hq : Try.prog.info? 3 with
    | none => simp [hq] at hs
    | some i => simp [hq] at hs; simp [sizeOf, typeInfo, hq, hs]
  simp [Instr.indexAt, run_underlying Try.underlying44, asIntOf, hj, hsz, Addr.add_mid]
theorem run_load_int (b o : Nat) (x : Int) (w : World) (h : w.cell? ⟨b, o, none⟩ = some (.int .i64 x)) : (Instr.loadAt 3 (.pointer (some ⟨b, o, none⟩))).run Try.prog w = .ok (.int .i64 x) w := by
  simp [go_sem, h]
set_option maxRecDepth 20000 in
set_option maxHeartbeats 4000000 in
theorem WireMany_in (A : Option Addr) (n cap : Nat) (is : List Int) (w : World) (hi0 : RdI w (.slice A n cap) is) (hn : is.length = n) (hs : n ≤ 60) : Calls Try.prog 8 #[.slice A n cap] w fun e w' => e = .returned (.bool true) ∧ Below w.heap.size w w' := by
  obtain ⟨A', cap', hv, hc1, hc2, hcell⟩ := hi0
  cases hv
  clear hn
  have HC := Lib.hid hcell
  clear hcell
  unfold maxLen at hc2
  generalize hn : is.length = n at hs hc1 ⊢
  have Hn := Lib.hid hn
  clear hn
  obtain ⟨i0, hi, hz0, hz1, hz2⟩ := info_parts info5
  go_enter Try.func8, Try.ntmps8
  go_wp2_with (go_at_call 9; refine (alive3_any w).mono ?_; rintro _ w1 ⟨rfl, hB1⟩)
  go_loopw [3, 4] (fun v i wr => ∃ k : Nat, k ≤ n ∧ i = .int .i64 k ∧ wr.ownsRow w1.heap.size 5 1 v (encL (is.take k)).length ((encL (is.take k)).map fun b => .int .u8 (bN b)) ∧ Below w1.heap.size w1 wr) (fun _ i _ => n - (intOf i).toNat)
  case atStart => exact ⟨0, by omega, rfl, World.ownsRow_nil _ _ _ _, Below.refl _ _⟩
  case round =>
    obtain ⟨k, hk, rfl, hown, qB⟩ := hrel
    have hle : (encL (is.take k)).length ≤ 300 := by have := encL_length (is.take k); rw [List.length_take] at this; omega
    by_cases hlt : k < n
    · obtain ⟨b, o, rfl, hcells⟩ := HC.out (by rw [Hn.out]; omega)
      have c0 := hcells k (by rw [Hn.out]; exact hlt)
      have hbw : b < w.heap.size := World.block_lt_of_cell? _ _ c0
      have qBw : Below w.heap.size w wr := Below.trans hB1 (qB.mono hB1.size)
      have cx := (qBw.cell (p := ⟨b, o + k, none⟩) hbw).trans c0
      have Ht := Lib.hid (take_at is k (by rw [Hn.out]; exact hlt))
      generalize is.getD k 0 = x at cx c0 Ht
      have hx5 := numI_length x
      clear c0 hcells
      generalize hm : (encL (is.take k)).length = m at hown hle
      have Hm := Lib.hid hm
      clear hm
      go_wp2_with (first
        | (go_at_call 11; refine Calls.mono (Num_cv x wr) ?_; rintro _ w2 ⟨v2, rfl, hN2, hv2⟩; have V2 := Lib.hid (svRdN_rd hv2 [] (by simp)); have hown2 := ownsRow_newT hown hN2; have qB2 := qB.trans (hN2.out.mono qB.size))
        | (at_builtin; refine wpList_append_rd rfl (.tmp 19) (.tmp 24) 22 rfl (base := w1.heap.size) Try.underlying22 hi hz0 hz1 hz2 rfl hown2 rfl V2.out (by omega) qB2.size ?_; intro v3 w3 o3 grow3))
      go_roundw
      case rel =>
        refine ⟨k + 1, by omega, by go_num, ?_, qB2.grown grow3 qB2.size (fun k e => (hown2.lt k e).1)⟩
        rw [Ht.out, encL_snoc, List.length_append, List.map_append, Hm.out]; exact o3
      case measure => simp [intOf]; omega
    · obtain rfl : k = n := by omega
      have htk : is.take k = is := List.take_of_length_le (by rw [Hn.out]; exact Nat.le_refl _)
      rw [htk] at hown hle
      clear htk
      have RE := Lib.hid (rdV_own (L := []) hown rfl (by simp))
      obtain ⟨AE, nE, cE, rfl, HnE⟩ := rdV_form' RE.out
      have qBw : Below w.heap.size w wr := Below.trans hB1 (qB.mono hB1.size)
      have hsz := qB.size
      have hsz1 := hB1.size
      clear hown
      go_wp2_with (go_at_call 17; refine (Read_any _ (encL is) wr RE.out (by omega)).mono ?_; rintro _ w4 ⟨R, rfl, hN4, hR4, hr4⟩; have G4 := Lib.hid hr4; clear hr4)
      have qB4 : Below w.heap.size w w4 := qBw.trans (hN4.out.mono (by omega))
      have hRw : w.heap.size ≤ R := by omega
      have G4' : Hid (Rdr w4 R (encL (is.drop 0)) 0) := Lib.hid (by rw [List.drop_zero]; exact G4.out)
      have HnE' : Hid ((encL (is.drop 0)).length = nE) := Lib.hid (by rw [List.drop_zero]; exact HnE.out)
      clear qBw qB hsz hN4 hR4 G4 HnE
      go_loopw [6, 7] (fun lf i wr => ∃ j : Nat, j ≤ k ∧ i = .int .i64 j ∧ lf = .int .i64 ((encL (is.drop j)).length : Nat) ∧ Rdr wr R (encL (is.drop j)) 0 ∧ Below w.heap.size w wr) (fun _ i _ => k - (intOf i).toNat)
      case atStart => exact ⟨0, by omega, rfl, by rw [HnE'.out], G4'.out, qB4⟩
      case round =>
        obtain ⟨j, hj, rfl, rfl, hrj, qB⟩ := hrel
        have G := Lib.hid hrj
        have hRl := hrj.lt
        clear hrj G4' HnE' qB4
        by_cases hlt : j < k
        · obtain ⟨b, o, rfl, hcells⟩ := HC.out (by rw [Hn.out]; omega)
          have c0 := hcells j (by rw [Hn.out]; exact hlt)
          have hbw : b < w.heap.size := World.block_lt_of_cell? _ _ c0
          have cx := (qB.cell (p := ⟨b, o + j, none⟩) hbw).trans c0
          have Hd := Lib.hid (drop_at is j (by rw [Hn.out]; exact hlt))
          generalize is.getD j 0 = x at cx c0 Hd
          clear c0 hcells
          have hlj : (encL (is.drop j)).length ≤ 300 := by have := encL_length (is.drop j); rw [List.length_drop, Hn.out] at this; omega
          by_cases hbad : x < 0 ∨ 2147483647 < x
          · have he : encL (is.drop j) = encL (is.drop (j + 1)) := by
              rw [Hd.out, encL_cons, numI, if_neg (by omega)]; rfl
            have He := Lib.hid he
            generalize hlf : (encL (is.drop j)).length = lf at hlj
            have Hlf := Lib.hid hlf
            clear he hlf
            rcases hbad with hbad | hbad
            · go_wp2
              go_roundw
              case rel => exact ⟨j + 1, by omega, by go_num, by rw [← He.out, Hlf.out], by rw [← He.out]; exact G.out, qB⟩
              case measure => simp [intOf]; omega
            · go_wp2
              go_roundw
              case rel => exact ⟨j + 1, by omega, by go_num, by rw [← He.out, Hlf.out], by rw [← He.out]; exact G.out, qB⟩
              case measure => simp [intOf]; omega
          · obtain ⟨y, rfl⟩ := Int.eq_ofNat_of_zero_le (show 0 ≤ x by omega)
            have hy : y ≤ 2147483647 := by omega
            have e1 := numI_nat y hy
            have el : encL (is.drop j) = numL y ++ encL (is.drop (j + 1)) := by rw [Hd.out, encL_cons, e1]
            have hob := outN_put y hy (encL (is.drop (j + 1)))
            rw [← el] at hob
            have ell := congrArg List.length el
            rw [List.length_append, ← e1] at ell
            generalize hl0 : encL (is.drop j) = l at hob ell G hlj
            generalize hl1 : encL (is.drop (j + 1)) = l' at hob ell
            have HL0 := Lib.hid hl0
            have HL1 := Lib.hid hl1
            have Ho := Lib.hid hob
            obtain ⟨nv, hnv⟩ : ∃ nv, (numI (y : Int)).length = nv := ⟨_, rfl⟩
            obtain ⟨lf, hlf⟩ : ∃ lf, l'.length = lf := ⟨_, rfl⟩
            rw [hnv, hlf] at ell
            obtain ⟨lo, hlo⟩ : ∃ lo, l.length = lo := ⟨_, rfl⟩
            rw [hlo] at ell hlj
            have hsub : (lo : Int) - (nv : Int) = (lf : Int) := by omega
            have Hnv := Lib.hid hnv
            have Hlf := Lib.hid hlf
            have Hlo := Lib.hid hlo
            have hl : l.length ≤ 1000000 := by omega
            have HL := Lib.hid hl
            have hbR : b ≠ R := by omega
            rw [show ((l.length : Nat) : Int) = (lo : Int) by rw [Hlo.out]]
            clear hl0 hl1 hob el hnv hlf hlo hl e1 Hd ell
            go_wp2_with (go_at_call 11; refine Calls.mono (Num_cv (y : Int) wr) ?_; rintro _ w2 ⟨v2, rfl, hN2, hv2⟩; obtain ⟨A2, n2, c2, rfl, Hn2⟩ := rdV_form' (hv2 [] (by simp)); obtain rfl : nv = n2 := Hnv.out.symm.trans Hn2.out; clear hv2)
            have hl := HL.out
            have Hr := Lib.hid (G.out.new hN2)
            have hRl2 : R < w2.heap.size := Hr.out.lt
            have cx2 := (hN2.out.cell (p := ⟨b, o + j, none⟩) (World.block_lt_of_cell? _ _ cx)).trans cx
            clear G cx hsub
            refine wp_region_relyP (RT R) (fun k w => Rdr w R (match k with | 0 => l | _ => l') 0) [SV.eq (.pointer (some ⟨R, 0, none⟩)), SV.eq (.int .i64 (y : Int)), SV.eq (.slice (some ⟨b, o, none⟩) k cap), SV.eq (.int .i64 (j : Int)), SV.eq (.pointer (some ⟨b, o + j, none⟩)), SV.eq (.int .i64 (y : Int)), SV.eq (.bool false), SV.eq (.bool false), SV.eq (.pointer (some ⟨R, 0, none⟩)), SV.eq (.int .i64 (lf : Int)), SV.eq (.int .i64 (lf : Int)), SV.eq (.bool false)] [([(5, none)], none), ([(56, some 0)], none), ([(0, none)], none), ([(7, none)], none), ([(58, some 2), (59, some 3)], none), ([(60, some 4)], none), ([(57, some 1), (61, some 5)], none), ([(62, some 6)], none), ([(5, none), (63, some 7)], some (63, false)), ([(64, some 8), (63, some 7)], some (63, false)), ([(6, none), (63, some 7)], some (63, false)), ([(65, some 9), (66, some 10), (63, some 7)], some (63, false))] [none, some 0, none, none, none, none, some 1, some 2, none, some 3, none, none] [1, 6, 7, 9] 72 rfl (by kernel_rfl) rfl (by kernel_rfl) (by kernel_rfl) rfl (by kernel_rfl) RT.trans (RT.drew _ _) Hr.out.drew (Nat.le_of_ble_eq_true rfl) ⟨?_, ?_, ?_, ?_, ?_, ?_, ?_, ?_, ?_, ?_, ?_, ?_, trivial⟩ ?_
            · -- 0: Op.move t5
              intro a wx hT hF K hK
              have hK' := fun v hv => hK v wx (RT.refl _ _) (fun _ h => h) hv
              have hKn := fun v w' (hN : NewT wx w') hv => hK v w' (RT.new (Nat.lt_of_lt_of_le hRl2 hT.size) hN) (fun k h => Rdr.new h hN) hv
              obtain ⟨f5, _⟩ := hF
              have f5 : a.tmps.getD 5 undef = .pointer (some ⟨R, 0, none⟩) := f5
              refine rely_wp rfl ?_
              exact opr_move (.inl rfl) (hK' _ f5)
            · -- 1: Op.call ( value (Operand.func 19), args := #[t56], argTypes 
              intro a wx hT hF hJ K hK
              obtain ⟨f56, _⟩ := hF
              have f56 : a.tmps.getD 56 undef = .pointer (some ⟨R, 0, none⟩) := f56
              refine rely_wp rfl ?_
              refine opr_call rfl Try.func19 (by kernel_rfl) (by kernel_rfl) (by simp only [List.map_toArray, List.map_cons, List.map_nil, eval_tmp, f56]) ((RNum_good R l wx hJ hl).mono ?_)
              rintro e w' ⟨rfl, hT', hr⟩
              rw [Ho.out] at hr ⊢
              exact ⟨_, rfl, hK _ _ hT' hr rfl⟩
            · -- 2: Op.move t0
              intro a wx hT hF K hK
              have hK' := fun v hv => hK v wx (RT.refl _ _) (fun _ h => h) hv
              have hKn := fun v w' (hN : NewT wx w') hv => hK v w' (RT.new (Nat.lt_of_lt_of_le hRl2 hT.size) hN) (fun k h => Rdr.new h hN) hv
              obtain ⟨f0, _⟩ := hF
              have f0 : a.tmps.getD 0 undef = .slice (some ⟨b, o, none⟩) k cap := f0
              refine rely_wp rfl ?_
              exact opr_move (.inl rfl) (hK' _ f0)
            · -- 3: Op.move t7
              intro a wx hT hF K hK
              have hK' := fun v hv => hK v wx (RT.refl _ _) (fun _ h => h) hv
              have hKn := fun v w' (hN : NewT wx w') hv => hK v w' (RT.new (Nat.lt_of_lt_of_le hRl2 hT.size) hN) (fun k h => Rdr.new h hN) hv
              obtain ⟨f7, _⟩ := hF
              have f7 : a.tmps.getD 7 undef = .int .i64 (j : Int) := f7
              refine rely_wp rfl ?_
              exact opr_move (.inl rfl) (hK' _ f7)
            · -- 4: Op.indexAddr 44 t58 t59
              intro a wx hT hF K hK
              have hK' := fun v hv => hK v wx (RT.refl _ _) (fun _ h => h) hv
              have hKn := fun v w' (hN : NewT wx w') hv => hK v w' (RT.new (Nat.lt_of_lt_of_le hRl2 hT.size) hN) (fun k h => Rdr.new h hN) hv
              obtain ⟨f58, f59, _⟩ := hF
              have f58 : a.tmps.getD 58 undef = .slice (some ⟨b, o, none⟩) k cap := f58
              have f59 : a.tmps.getD 59 undef = .int .i64 (j : Int) := f59
              refine rely_wp rfl ?_
              refine opr_val (s := Instr.indexAt 44 (a.eval (.tmp 58)) (a.eval (.tmp 59))) rfl ?_ (hK' _ rfl)
              rw [eval_tmp, eval_tmp, f58, f59]
              exact run_idx b o k cap j hlt wx
            · -- 5: Op.load 3 t60
              intro a wx hT hF K hK
              have hK' := fun v hv => hK v wx (RT.refl _ _) (fun _ h => h) hv
              have hKn := fun v w' (hN : NewT wx w') hv => hK v w' (RT.new (Nat.lt_of_lt_of_le hRl2 hT.size) hN) (fun k h => Rdr.new h hN) hv
              obtain ⟨f60, _⟩ := hF
              have f60 : a.tmps.getD 60 undef = .pointer (some ⟨b, o + j, none⟩) := f60
              refine rely_wp rfl ?_
              refine opr_val (s := Instr.loadAt 3 (a.eval (.tmp 60))) rfl ?_ (hK' _ rfl)
              rw [eval_tmp, f60]
              exact run_load_int b (o + j) y wx (hT.keep.cell (by simpa using hbR) cx2)
            · -- 6: Op.binOp BinOp.neq 3 t57 t61 3
              intro a wx hT hF hJ K hK
              have hK' := fun v hv => hK v wx (RT.refl _ _) hJ hv
              obtain ⟨f57, f61, _⟩ := hF
              have f57 : a.tmps.getD 57 undef = .int .i64 (y : Int) := f57
              have f61 : a.tmps.getD 61 undef = .int .i64 (y : Int) := f61
              refine rely_wp rfl ?_
              simp only [Array.getD_eq_getD_getElem?] at f57
              simp only [Array.getD_eq_getD_getElem?] at f61
              go_simp
              exact hK' _ rfl
            · -- 7: Op.move t62
              intro a wx hT hF hJ K hK
              have hK' := fun v hv => hK v wx (RT.refl _ _) hJ hv
              obtain ⟨f62, _⟩ := hF
              have f62 : a.tmps.getD 62 undef = .bool false := f62
              refine rely_wp rfl ?_
              exact opr_move (.inl rfl) (hK' _ f62)
            · -- 8: Op.move t5
              intro a wx hT hF K hK
              have hK' := fun v hv => hK v wx (RT.refl _ _) (fun _ h => h) hv
              have hKn := fun v w' (hN : NewT wx w') hv => hK v w' (RT.new (Nat.lt_of_lt_of_le hRl2 hT.size) hN) (fun k h => Rdr.new h hN) hv
              obtain ⟨f5, f63, _⟩ := hF
              have f5 : a.tmps.getD 5 undef = .pointer (some ⟨R, 0, none⟩) := f5
              have f63 : a.tmps.getD 63 undef = .bool false := f63
              refine rely_wp (rely_guard f63) ?_
              exact opr_move (.inl rfl) (hK' _ f5)
            · -- 9: Op.call ( value (Operand.func 23), args := #[t64], argTypes 
              intro a wx hT hF hJ K hK
              have hK' := fun v hv => hK v wx (RT.refl _ _) hJ hv
              obtain ⟨f64, f63, _⟩ := hF
              have f64 : a.tmps.getD 64 undef = .pointer (some ⟨R, 0, none⟩) := f64
              have f63 : a.tmps.getD 63 undef = .bool false := f63
              refine rely_wp (rely_guard f63) ?_
              refine opr_call rfl Try.func23 (by kernel_rfl) (by kernel_rfl) (by simp only [List.map_toArray, List.map_cons, List.map_nil, eval_tmp, f64]) (Calls.mono (Left_any R l' 0 wx hJ) ?_)
              rintro e w' ⟨v, rfl, hN, hv⟩
              exact ⟨_, rfl, hK _ _ (RT.new (Rdr.lt (l := l') (e := 0) hJ) hN) (Rdr.new (l := l') (e := 0) hJ hN) (by rw [Hlf.out] at hv; exact hv)⟩
            · -- 10: Op.move t6
              intro a wx hT hF K hK
              have hK' := fun v hv => hK v wx (RT.refl _ _) (fun _ h => h) hv
              have hKn := fun v w' (hN : NewT wx w') hv => hK v w' (RT.new (Nat.lt_of_lt_of_le hRl2 hT.size) hN) (fun k h => Rdr.new h hN) hv
              obtain ⟨f6, f63, _⟩ := hF
              have f6 : a.tmps.getD 6 undef = .int .i64 (lf : Int) := f6
              have f63 : a.tmps.getD 63 undef = .bool false := f63
              refine rely_wp (rely_guard f63) ?_
              exact opr_move (.inl rfl) (hK' _ f6)
            · -- 11: Op.binOp BinOp.neq 3 t65 t66 3
              intro a wx hT hF K hK
              have hK' := fun v hv => hK v wx (RT.refl _ _) (fun _ h => h) hv
              have hKn := fun v w' (hN : NewT wx w') hv => hK v w' (RT.new (Nat.lt_of_lt_of_le hRl2 hT.size) hN) (fun k h => Rdr.new h hN) hv
              obtain ⟨f65, f66, f63, _⟩ := hF
              have f65 : a.tmps.getD 65 undef = .int .i64 (lf : Int) := f65
              have f66 : a.tmps.getD 66 undef = .int .i64 (lf : Int) := f66
              have f63 : a.tmps.getD 63 undef = .bool false := f63
              refine rely_wp (rely_guard f63) ?_
              simp only [Array.getD_eq_getD_getElem?] at f65
              simp only [Array.getD_eq_getD_getElem?] at f66
              simp only [Array.getD_eq_getD_getElem?] at f63
              go_simp
              exact hK' _ rfl
            · intro wx hT hJ
              intro u h; obtain rfl := h (by simp); clear h
              intro u h; obtain rfl := h (by simp); clear h
              intro u h; obtain rfl := h (by simp); clear h
              intro u h; obtain rfl := h (by simp); clear h
              intro u h; obtain rfl := h (by simp); clear h
              intro u h; obtain rfl := h (by simp); clear h
              intro u h; obtain rfl := h (by simp); clear h
              intro u h; obtain rfl := h (by simp); clear h
              intro u h; obtain rfl := h (by simp); clear h
              intro u h; obtain rfl := h (by simp); clear h
              intro u h; obtain rfl := h (by simp); clear h
              intro u h; obtain rfl := h (by simp); clear h
              refine relyEnd_nil rfl ?_
              simp only [Act.put, List.setIfInBounds_toArray, List.set_cons_zero, List.set_cons_succ]
              refine opr_pick_false rfl rfl ?_
              go_simp
              have qB2 : Below w.heap.size w wx := (qB.trans (hN2.out.mono qB.size)).trans (hT.below.mono hRw)
              replace hJ : Rdr wx R l' 0 := hJ
              go_wp2
              go_roundw
              case rel => exact ⟨j + 1, by omega, by go_num, by rw [HL1.out, Hlf.out], by rw [HL1.out]; exact hJ, qB2⟩
              case measure => simp [intOf]; omega
        · obtain rfl : j = k := by omega
          have hnil : encL (is.drop j) = [] := by rw [List.drop_of_length_le (by rw [Hn.out]; exact Nat.le_refl _)]; rfl
          rw [hnil] at G
          go_wp2_with (go_at_call 26; refine (Done_any R [] 0 wr G.out).eq.mono ?_; rintro _ w5 ⟨rfl, hB5⟩; simp only [List.length_nil, Nat.lt_irrefl, if_false])
          go_ret
          exact ⟨rfl, qB.trans (hB5.mono qB.size)⟩
set_option maxHeartbeats 1000000 in
theorem WireMany_walk (v : Value) (is : List Int) (w : World) (h : RdI w v is) : Calls Try.prog 8 #[v] w fun e w' => e = .returned (.bool true) ∧ Below w.heap.size w w' := by
  have h0 := h
  obtain ⟨A, cap, rfl, h1, h2, _⟩ := h0
  unfold maxLen at h2
  by_cases hl : 60 < is.length
  · clear h
    go_enter Try.func8, Try.ntmps8
    go_wp2_with (go_at_call 9; refine (alive3_any w).mono ?_; rintro _ w1 ⟨rfl, hB1⟩)
    go_ret
    exact ⟨rfl, hB1⟩
  · exact WireMany_in A is.length cap is w h rfl (by omega)
end Go.Proofs.Yteelddmegmojpaa
