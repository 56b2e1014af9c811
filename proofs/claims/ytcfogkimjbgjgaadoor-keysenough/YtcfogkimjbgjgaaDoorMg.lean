/- Bits of a number, marks chosen by them; what layer 10's law KeysEnough says, on lists. -/
import Derived.Test.YtcfogkimjbgjgaaDoorMf
set_option linter.all false
namespace Go.Proofs.YtcfogkimjbgjgaaDoor
open Go Go.RowKit
set_option maxRecDepth 8000
set_option linter.all false
section
variable {a : Act} {w : World} {o : Oper} {K : Act → World → Prop} {Q : Exit → Act → World → Prop} {x y : Operand}
theorem opr_cvK {k : Nat} (hk : k < 4) (ho : o.op = .convert 3 47 x) (hx : a.eval x = .int .i64 (k : Int)) (h : K (a.put o.dst (.int .u64 (k : Int))) w) : o.wp Tryd.prog a w K Q := by
  obtain ⟨dst, op, type, pos, after, guard⟩ := o
  simp only at ho
  subst ho
  refine opr_val (s := convert 3 47 (a.eval x)) rfl ?_ h
  rw [hx]
  have hw : IntKind.u64.wrap (k : Int) = k := by simp [IntKind.wrap, IntKind.bits, IntKind.signed]; omega
  simp [go_sem, hw]
theorem opr_shr8 {n r : Int} {k : Nat} {t2 : TypeId} (hn : 0 ≤ n ∧ n ≤ 255) (hk : k < 4) (hr : n / 2 ^ k = r) (ho : o.op = .binOp .shr 5 x y t2) (hx : a.eval x = .int .u8 n) (hy : a.eval y = .int .u64 (k : Int)) (h : K (a.put o.dst (.int .u8 r)) w) : o.wp Tryd.prog a w K Q := by
  obtain ⟨dst, op, type, pos, after, guard⟩ := o
  simp only at ho
  subst ho hr
  refine opr_val (s := do eqGuard .shr 5 x y (a.eval x) (a.eval y); binOp .shr 5 (a.eval x) (a.eval y)) rfl ?_ h
  rw [hx, hy]
  have hf : ∀ b : Int, 0 ≤ b → Int.fdiv n b = n / b := fun b hb => Int.fdiv_eq_ediv_of_nonneg n hb
  have h4 : k = 0 ∨ k = 1 ∨ k = 2 ∨ k = 3 := by omega
  rcases h4 with rfl | rfl | rfl | rfl <;> simp [go_sem, hf]
theorem opr_and1 {n r : Int} {t2 : TypeId} (hn : 0 ≤ n ∧ n ≤ 255) (hr : n % 2 = r) (ho : o.op = .binOp .and 5 x (.const (.int .u8 1)) t2) (hx : a.eval x = .int .u8 n) (h : K (a.put o.dst (.int .u8 r)) w) : o.wp Tryd.prog a w K Q := by
  obtain ⟨dst, op, type, pos, after, guard⟩ := o
  simp only at ho
  subst ho hr
  refine opr_val (s := do eqGuard .and 5 x (.const (.int .u8 1)) (a.eval x) (.int .u8 1); binOp .and 5 (a.eval x) (.int .u8 1)) rfl ?_ h
  rw [hx]
  have hb : ∀ k : Fin 256, bits .and .u8 (k.val : Int) 1 = ((k.val % 2 : Nat) : Int) := by decide +kernel
  have h1 := hb ⟨n.toNat, by omega⟩
  simp only at h1
  rw [show ((n.toNat : Nat) : Int) = n by omega] at h1
  have h2 : bits .and .u8 n 1 = n % 2 := by rw [h1]; omega
  simp [go_sem, h2]
theorem opr_eql8 {m n : Int} {b : Bool} {t2 : TypeId} (hb : (m == n) = b) (ho : o.op = .binOp .eql 5 x y t2) (hx : a.eval x = .int .u8 m) (hy : a.eval y = .int .u8 n) (h : K (a.put o.dst (.bool b)) w) : o.wp Tryd.prog a w K Q := by
  obtain ⟨dst, op, type, pos, after, guard⟩ := o
  simp only at ho
  subst ho hb
  refine opr_val (s := do eqGuard .eql 5 x y (a.eval x) (a.eval y); binOp .eql 5 (a.eval x) (a.eval y)) rfl ?_ h
  rw [hx, hy]
  simp [go_sem]
end
/-- The marks that the law chooses. -/
def enT (pk : Nat → Bool) (sg : Nat → Hs) (turn : Bool) : Nat → List (Int × Hs)
  | 0 => []
  | i + 1 => if pk i = true then (if turn = true then ((i : Int), sg i) :: enT pk sg turn i else enT pk sg turn i ++ [((i : Int), sg i)]) else enT pk sg turn i
theorem enT_mem {pk : Nat → Bool} {sg : Nat → Hs} {turn : Bool} : ∀ {m : Nat} {s : Int × Hs}, s ∈ enT pk sg turn m → ∃ i, i < m ∧ s = ((i : Int), sg i)
  | 0, _, h => by cases h
  | m + 1, s, h => by
    unfold enT at h
    have old : s ∈ enT pk sg turn m → ∃ i, i < m + 1 ∧ s = ((i : Int), sg i) := fun h => by
      obtain ⟨i, h1, h2⟩ := enT_mem h
      exact ⟨i, by omega, h2⟩
    split at h
    · split at h
      · rcases List.mem_cons.1 h with h | h
        · exact ⟨m, by omega, h⟩
        · exact old h
      · rcases List.mem_append.1 h with h | h
        · exact old h
        · exact ⟨m, by omega, by simpa using h⟩
    · exact old h
theorem enT_nodup {pk : Nat → Bool} {sg : Nat → Hs} {turn : Bool} : ∀ m, ((enT pk sg turn m).map (·.1)).Nodup
  | 0 => by simp [enT]
  | m + 1 => by
    have ih := enT_nodup (pk := pk) (sg := sg) (turn := turn) m
    have hn : ∀ s ∈ enT pk sg turn m, s.1 ≠ (m : Int) := fun s hs he => by
      obtain ⟨i, h1, h2⟩ := enT_mem hs
      rw [h2] at he
      have : (i : Int) = (m : Int) := he
      omega
    unfold enT
    split
    · split
      · rw [List.map_cons, List.nodup_cons]
        exact ⟨fun h => by obtain ⟨s, hs, he⟩ := List.mem_map.1 h; exact hn s hs he, ih⟩
      · rw [List.map_append, List.nodup_append]
        refine ⟨ih, by simp, fun a ha b hb => ?_⟩
        obtain ⟨s, hs, rfl⟩ := List.mem_map.1 ha
        simp at hb
        subst hb
        exact hn s hs
    · exact ih
theorem enT_len {pk : Nat → Bool} {sg : Nat → Hs} {turn : Bool} : ∀ m, (enT pk sg turn m).length ≤ m
  | 0 => by simp [enT]
  | m + 1 => by
    have := enT_len (pk := pk) (sg := sg) (turn := turn) m
    unfold enT
    split
    · split <;> simp <;> omega
    · omega
section
variable {ps ws : List Hs} {need size : Int} {sg : Nat → Hs} {pk : Nat → Bool} {turn : Bool}
theorem en_check (hm : mayB ps ws need = true) (hs : inR size 0 400 = true) : checkI ps ws need size sg (enT pk sg turn ws.length) = if need ≤ (enT pk sg turn ws.length).length then 0 else 8 :=
  check_list hm hs (fun s h => by
    obtain ⟨i, h1, rfl⟩ := enT_mem h
    exact ⟨i, h1, rfl, eqH_same _⟩) (enT_nodup _)
/-- Once more the first one: no good. -/
theorem twice_check {l : List (Int × Hs)} {s : Int × Hs} {t : List (Int × Hs)} (hl : l = s :: t) (h : (mayB ps ws need && inR size 0 400) = true) : checkI ps ws need size sg (l ++ [s]) = 8 := by
  refine checkI_bad h (okTo_bad (k := l.length) (s := s) (by simp) ?_)
  have : ((l ++ [s]).take l.length).any (fun q => q.1 == s.1) = true := by
    rw [List.take_left, List.any_eq_true]
    exact ⟨s, by rw [hl]; simp, by simp⟩
  unfold okAt
  rw [this]; simp
/-- Another tag: no good. -/
theorem turned_check {i : Nat} {d : Hs} {t : List (Int × Hs)} (hd : eqH (sg i) d = false) (h : (mayB ps ws need && inR size 0 400) = true) : checkI ps ws need size sg (((i : Int), d) :: t) = 8 := by
  refine checkI_bad h (okTo_bad (k := 0) (s := ((i : Int), d)) rfl ?_)
  unfold okAt
  rw [Int.toNat_natCast, hd, Bool.and_false]
end
/-- A hash whose first byte is one more. -/
def incH (d : Hs) : Hs := fun i => if i = 0 then d 0 + 1 else d i
theorem incH_ne (d : Hs) : eqH d (incH d) = false := by
  rw [← Bool.not_eq_true, eqH_iff]
  intro h
  have h0 : d 0 = d 0 + 1 := h 0 (by omega)
  have h1 := congrArg UInt8.toNat h0
  rw [UInt8.toNat_add] at h1
  have : (d 0).toNat < 256 := (d 0).toNat_lt
  simp at h1
  omega
theorem inc8 (b : UInt8) : IntKind.u8.wrap (bN b + 1) = bN (b + 1) := by
  rw [wrap_u8, bN, bN, UInt8.toNat_add]
  simp
end Go.Proofs.YtcfogkimjbgjgaaDoor
/- Marks in a row of the call's own: a byte of the first one's tag turned. -/
namespace Go.Proofs.YtcfogkimjbgjgaaDoor
open Go Go.RowKit
set_option maxRecDepth 8000
set_option linter.all false
/-- Marks in a row of the call's own, from block B on. -/
def svOG (B : Nat) (l : List (Int × Hs)) : SV NewT := ⟨fun v w => OwnG w B v l, fun _ _ _ h hT => h.new hT⟩
theorem OwnG.rdB {w : World} {B : Nat} {v : Value} {l : List (Int × Hs)} (h : OwnG w B v l) : RdSB B w v l := ⟨h.rd, fun k hk => (h.lt k hk).1⟩
theorem OwnG.open {w : World} {B : Nat} {v : Value} {l : List (Int × Hs)} (h : OwnG w B v l) (h0 : 0 < l.length) : ∃ g cap n F, v = .slice (some ⟨g, 0, none⟩) l.length cap ∧ B ≤ g ∧ l.length ≤ cap ∧ cap ≤ maxLen ∧ w.rowIs g 49 n F ∧ l.length * 33 ≤ n ∧ ∀ i d, l[i]? = some d → ∀ j, j < 33 → F (i * 33 + j) = sigF d j := by
  rcases h.2 with ⟨_, h2⟩ | ⟨g, cap, cur, hv, hb, hg, hc, hm, hs, hx⟩
  · omega
  · refine ⟨g, cap, cur.size, fun i => cur[i]?.getD undef, hv, hb, hc, hm, ⟨cur, hg, rfl, fun i hi => by simp [hi]⟩, by rw [hs]; exact Nat.mul_le_mul_right 33 hc, fun i d hd j hj => ?_⟩
    have h1 := gcs_at l i d hd j hj
    have hlt : i * 33 + j < l.length * 33 := by rw [← gcs_length]; exact (List.getElem?_eq_some_iff.1 h1).1
    have h2 := congrArg (·[i * 33 + j]?) hx
    simp only [List.getElem?_take, if_pos hlt] at h2
    show cur[i * 33 + j]?.getD undef = sigF d j
    rw [← Array.getElem?_toList, h2, h1]; rfl
theorem rdS_of {w : World} {g n cap : Nat} {t : TypeId} {F : Nat → Value} {l : List (Int × Hs)} (hr : w.rowIs g t n F) (hn : l.length * 33 ≤ n) (hc : l.length ≤ cap) (hm : cap ≤ maxLen) (hF : ∀ i d, l[i]? = some d → ∀ j, j < 33 → F (i * 33 + j) = sigF d j) : RdS w (.slice (some ⟨g, 0, none⟩) l.length cap) l := by
  refine ⟨some ⟨g, 0, none⟩, cap, rfl, hc, hm, fun _ => ⟨g, 0, rfl, fun i d hd j hj => ?_⟩⟩
  have hi : i < l.length := (List.getElem?_eq_some_iff.1 hd).1
  rw [show 0 + i * 33 + j = i * 33 + j by omega, hr.cell (by omega), hF i d hd j hj]
theorem inc_cells {F : Nat → Value} {z : Int} {d : Hs} {t : List (Int × Hs)} (hF : ∀ i x, ((z, d) :: t)[i]? = some x → ∀ j, j < 33 → F (i * 33 + j) = sigF x j) : ∀ i x, ((z, incH d) :: t)[i]? = some x → ∀ j, j < 33 → (if i * 33 + j = 1 then Value.int .u8 (bN (d 0 + 1)) else F (i * 33 + j)) = sigF x j := by
  intro i x hx j hj
  cases i with
  | zero =>
    simp at hx
    subst hx
    have h0 := hF 0 (z, d) rfl j hj
    rw [Nat.zero_mul, Nat.zero_add] at h0 ⊢
    by_cases h1 : j = 1
    · subst h1; rw [if_pos rfl]; rfl
    · rw [if_neg h1, h0]
      unfold sigF
      by_cases h2 : j = 0
      · subst h2; rfl
      · rw [if_neg h2, if_neg h2]
        show Value.int .u8 (bN (d (j - 1))) = Value.int .u8 (bN (incH d (j - 1)))
        unfold incH
        rw [if_neg (by omega)]
  | succ i =>
    rw [if_neg (by omega)]
    exact hF (i + 1) x (by simpa using hx) j hj
theorem size_u8 (w : World) : (sizeOf 5).run Tryd.prog w = .ok 1 w := by
  have hs := info5s
  cases hq : Tryd.prog.info? 5 with
  | none => simp [hq] at hs
  | some i => simp [hq] at hs; simp [sizeOf, typeInfo, hq, hs]
section
variable {a : Act} {w : World} {o : Oper} {K : Act → World → Prop} {Q : Exit → Act → World → Prop} {x y : Operand}
theorem opr_bsG1O {B : Nat} {d : Int × Hs} (hB : B ≤ w.heap.size) (ho : o.op = .buildSlice 38 1 #[(0, x)]) (hx : a.eval x = .agg (rowA 33 (sigF d))) (h : ∀ v w', NewT w w' → (svOG B [d]).pred v w' → K (a.put o.dst v) w') : o.wp Tryd.prog a w K Q := by
  obtain ⟨dst, op, type, pos, after, guard⟩ := o
  simp only at ho
  subst ho
  refine opr_val (s := Instr.buildSlice 38 1 #[(0, a.eval x)]) (by simp [execOp]) (by rw [hx]; exact run_bsG1 d w) (h _ _ (NewT.alloc _ _) ?_)
  refine ⟨by rw [gcs_length], .inr ⟨w.heap.size, 1, rowA 33 (sigF d), rfl, hB, World.alloc_heap_new _ _, by simp, by unfold maxLen; omega, by rw [rowA_size], ?_⟩⟩
  rw [rowA_toList, gcs_one]
  exact List.take_of_length_le (by simp)
theorem opr_idxG0 {g n c : Nat} (hn : 0 < n) (ho : o.op = .indexAddr 38 x (.const (.int .i64 0))) (hx : a.eval x = .slice (some ⟨g, 0, none⟩) n c) (h : K (a.put o.dst (.pointer (some ⟨g, 0, none⟩))) w) : o.wp Tryd.prog a w K Q := by
  obtain ⟨dst, op, type, pos, after, guard⟩ := o
  simp only at ho
  subst ho
  refine opr_val (s := Instr.indexAt 38 (a.eval x) (.int .i64 0)) rfl ?_ h
  rw [hx]
  have := run_idxG (b := g) (off := 0) (c := c) w hn
  simpa using this
theorem opr_idxH0 {g o0 : Nat} (ho : o.op = .indexAddr 26 x (.const (.int .i64 0))) (hx : a.eval x = .pointer (some ⟨g, o0, none⟩)) (h : K (a.put o.dst (.pointer (some ⟨g, o0, none⟩))) w) : o.wp Tryd.prog a w K Q := by
  obtain ⟨dst, op, type, pos, after, guard⟩ := o
  simp only at ho
  subst ho
  refine opr_val (s := Instr.indexAt 26 (a.eval x) (.int .i64 0)) rfl ?_ h
  rw [hx]
  simp [Instr.indexAt, Instr.sureAddr, asIntOf, run_underlying Tryd.underlying26, size_u8, Addr.add_zero']
theorem opr_ldU8 {g o0 n : Nat} {t' : TypeId} {F : Nat → Value} {v : Value} (hr : w.rowIs g t' n F) (hn : o0 < n) (hv : F o0 = v) (ho : o.op = .load 5 x) (hx : a.eval x = .pointer (some ⟨g, o0, none⟩)) (h : K (a.put o.dst v) w) : o.wp Tryd.prog a w K Q :=
  opr_ld1 Tryd.underlying5 rfl ho hx (by rw [hr.cell hn, hv]) h
theorem opr_inc8 {b : UInt8} {t2 : TypeId} (ho : o.op = .binOp .add 5 x (.const (.int .u8 1)) t2) (hx : a.eval x = .int .u8 (bN b)) (h : K (a.put o.dst (.int .u8 (bN (b + 1)))) w) : o.wp Tryd.prog a w K Q := by
  obtain ⟨dst, op, type, pos, after, guard⟩ := o
  simp only at ho
  subst ho
  refine opr_val (s := do eqGuard .add 5 x (.const (.int .u8 1)) (a.eval x) (.int .u8 1); binOp .add 5 (a.eval x) (.int .u8 1)) rfl ?_ h
  rw [hx, ← inc8]
  simp [go_sem]
theorem opr_neqQ {p q b : Bool} {t2 : TypeId} (hb : (p != q) = b) (ho : o.op = .binOp .neq 4 x y t2) (hx : a.eval x = .bool p) (hy : a.eval y = .bool q) (h : K (a.put o.dst (.bool b)) w) : o.wp Tryd.prog a w K Q := by
  obtain ⟨dst, op', type, pos, after, guard⟩ := o
  simp only at ho
  subst ho hb
  refine opr_val (s := do eqGuard .neq 4 x y (a.eval x) (a.eval y); binOp .neq 4 (a.eval x) (a.eval y)) rfl ?_ h
  rw [hx, hy]
  cases p <;> cases q <;> simp [go_sem]
theorem info_u81 : (Tryd.prog.info? 5).map (·.size) = some 1 := by kernel_rfl
end
end Go.Proofs.YtcfogkimjbgjgaaDoor
/- The law KeysEnough, walked: a checkpoint holds just if enough witnesses signed it, each once, in whichever order. -/
namespace Go.Proofs.YtcfogkimjbgjgaaDoor
open Go Go.RowKit
set_option maxRecDepth 8000
set_option linter.all false
set_option maxHeartbeats 8000000 in
theorem KeysEnough_walk (v : Value) (ps ws : List Hs) (need size : Int) (root : Hs) (n : Int) (turn : Bool) (hn8 : 0 ≤ n ∧ n ≤ 255) (w : World) (hT : Tables w) (hk : KeysV w v ps ws need) : Calls Tryd.prog 6 #[v, .int .i64 size, .agg (rowA 32 (bF root)), .int .u8 n, .bool turn] w fun e w' => e = .returned (.bool true) ∧ Below w.heap.size w w' := by
  have HN8 := Lib.hid hn8
  clear hn8
  obtain ⟨kf, tg, pf, hX⟩ := keyH_ex
  obtain ⟨pv, wv, rfl, hpv, hwv⟩ := hk
  have HT := Lib.hid hT
  have HK : Hid (KeysV w (.agg (rowA 3 (keyF pv wv need))) ps ws need) := Lib.hid ⟨pv, wv, rfl, hpv, hwv⟩
  have HP := Lib.hid hpv
  have HW := Lib.hid hwv
  clear hT hpv hwv
  go_enter Tryd.func6, Tryd.ntmps6
  go_upto_region 1 with fail
  have rk := (rowIs_box w 24 3 (keyF pv wv need)).alloc (.cells (rowA 32 (bF root)) 26)
  have r2 := rowIs_box (w.alloc (.cells (rowA 3 (keyF pv wv need)) 24)) 26 32 (bF root)
  have hN : NewT w ((w.alloc (.cells (rowA 3 (keyF pv wv need)) 24)).alloc (.cells (rowA 32 (bF root)) 26)) := NewT.trans _ _ _ (NewT.alloc _ _) (NewT.alloc _ _)
  rw [World.size_alloc] at r2
  change Code.wp _ _ _ _ ((w.alloc (.cells (rowA 3 (keyF pv wv need)) 24)).alloc (.cells (rowA 32 (bF root)) 26))
  generalize (w.alloc (.cells (rowA 3 (keyF pv wv need)) 24)).alloc (.cells (rowA 32 (bF root)) 26) = W0 at rk r2 hN ⊢
  obtain ⟨g1, hg1⟩ : ∃ g1, w.heap.size = g1 := ⟨_, rfl⟩
  obtain ⟨g2, hg2⟩ : ∃ g2, w.heap.size + 1 = g2 := ⟨_, rfl⟩
  have HG12 : Hid (g1 < g2 ∧ w.heap.size ≤ g1) := Lib.hid (by omega)
  rw [hg1] at rk
  rw [hg2] at r2
  rw [hg2]
  simp only [hg1]
  have RK := Lib.hid rk
  have RH := Lib.hid r2
  have HM := Lib.hid hN
  clear rk r2 hN hg1 hg2
  refine wp_region_steps0 NewT [SV.eq (.bool true), SV.eq (.bool false)] [([], none), ([(16, some 0)], none)] 121 2 rfl rfl (by kernel_rfl) NewT.trans (NewT.refl _) (Nat.le_of_ble_eq_true rfl) ⟨?_, ?_, trivial⟩ ?_
  · exact fun a wx hT hF K hK => rely_wp rfl (opr_cv (alive10_c wx ((NewT.trans _ _ _ HM.out hT).tables HT.out)) rfl Tryd.func10 (by kernel_rfl) (by kernel_rfl) evs0 hK)
  · exact fun a wx hT hF K hK => rely_wp rfl (opr_not rfl hF.1 (hK _ _ (NewT.refl _) rfl))
  · intro w1 k1
    iterate 2 (intro u h; obtain rfl := Eq.symm (h (by simp)); clear h)
    refine relyEnd_nil rfl ?_
    refine wpList_end rfl ?_
    simp only [Act.put, List.setIfInBounds_toArray, List.set_cons_zero, List.set_cons_succ]
    go_simp
    replace RK := Lib.hid (k1.row RK.out)
    replace RH := Lib.hid (k1.row RH.out)
    replace HM := Lib.hid (NewT.trans _ _ _ HM.out k1)
    clear k1
    go_upto_region 3 with fail
    obtain ⟨q1_3, Q1_3⟩ : ∃ bq_, ((decide (20 < ((List.length (ps) : Int)))) || (decide (20 < ((List.length (ws) : Int))))) = bq_ := ⟨_, rfl⟩
    obtain ⟨q2_3, Q2_3⟩ : ∃ bq_, ((q1_3 || (!(mayB ps ws need))) || (decide (size < 0))) = bq_ := ⟨_, rfl⟩
    refine wp_region_steps0 NewT [SV.eq (.pointer (some ⟨g1, 0, none⟩)), SV.eq (pv), SV.eq (.int .i64 ((List.length (ps) : Int))), SV.eq (.bool (decide (20 < ((List.length (ps) : Int))))), SV.eq (.bool (decide (20 < ((List.length (ps) : Int))))), svIf ((!(decide (20 < ((List.length (ps) : Int)))))) (SV.eq (.pointer (some ⟨g1, 1, none⟩))), svIf ((!(decide (20 < ((List.length (ps) : Int)))))) (SV.eq (wv)), svIf ((!(decide (20 < ((List.length (ps) : Int)))))) (SV.eq (.int .i64 ((List.length (ws) : Int)))), svIf ((!(decide (20 < ((List.length (ps) : Int)))))) (SV.eq (.bool (decide (20 < ((List.length (ws) : Int)))))), SV.eq (.bool (q1_3)), SV.eq (.bool (q1_3)), svIf ((!q1_3)) (SV.eq (.agg (rowA 3 (keyF pv wv need)))), svIf ((!q1_3)) (SV.eq (.bool (mayB ps ws need))), svIf ((!q1_3)) (SV.eq (.bool (!(mayB ps ws need)))), SV.eq (.bool (q1_3 || (!(mayB ps ws need)))), SV.eq (.bool (q1_3 || (!(mayB ps ws need)))), svIf ((!(q1_3 || (!(mayB ps ws need))))) (SV.eq (.int .i64 (size))), svIf ((!(q1_3 || (!(mayB ps ws need))))) (SV.eq (.bool (decide (size < 0)))), SV.eq (.bool (q2_3)), SV.eq (.bool (q2_3)), svIf ((!q2_3)) (SV.eq (.int .i64 (size))), svIf ((!q2_3)) (SV.eq (.bool (decide (400 < size)))), SV.eq (.bool (q2_3 || (decide (400 < size))))] [([(5, none)], none), ([(18, some 0)], none), ([(19, some 1)], none), ([(20, some 2)], none), ([(21, some 3)], none), ([(5, none), (22, some 4)], some (22, false)), ([(23, some 5), (22, some 4)], some (22, false)), ([(24, some 6), (22, some 4)], some (22, false)), ([(25, some 7), (22, some 4)], some (22, false)), ([(22, some 4), (26, some 8)], none), ([(27, some 9)], none), ([(5, none), (28, some 10)], some (28, false)), ([(29, some 11), (28, some 10)], some (28, false)), ([(30, some 12), (28, some 10)], some (28, false)), ([(28, some 10), (31, some 13)], none), ([(32, some 14)], none), ([(1, none), (33, some 15)], some (33, false)), ([(34, some 16), (33, some 15)], some (33, false)), ([(33, some 15), (35, some 17)], none), ([(36, some 18)], none), ([(1, none), (37, some 19)], some (37, false)), ([(38, some 20), (37, some 19)], some (37, false)), ([(37, some 19), (39, some 21)], none)] 121 23 rfl rfl (by kernel_rfl) NewT.trans (NewT.refl _) (Nat.le_of_ble_eq_true rfl) ⟨?_, ?_, ?_, ?_, ?_, ?_, ?_, ?_, ?_, ?_, ?_, ?_, ?_, ?_, ?_, ?_, ?_, ?_, ?_, ?_, ?_, ?_, ?_, trivial⟩ ?_
    · exact fun a wx hT hF K hK => rely_wp rfl (opr_fldY0 rfl hF.1 (hK _ _ (NewT.refl _) rfl))
    · exact fun a wx hT hF K hK => rely_wp rfl (opr_ldHs (hT.row RK.out) (by decide) rfl rfl hF.1 (hK _ _ (NewT.refl _) rfl))
    · intro a wx hT hF K hK
      obtain ⟨f19, _⟩ := hF
      have f19 : a.tmps.getD 19 undef = pv := f19
      refine rely_wp rfl ?_
      exact opr_len_h rfl (by rw [eval_tmp, f19]; exact ((NewT.trans _ _ _ HM.out hT).hs HP.out)) (hK _ _ (NewT.refl _) rfl)
    · exact fun a wx hT hF K hK => rely_wp rfl (opr_cmp (b := decide (20 < ((List.length (ps) : Int)))) (.inr (.inr (.inr (.inr (.inl ⟨rfl, rfl⟩))))) Tryd.underlying3 rfl hF.1 rfl (hK _ _ (NewT.refl _) rfl))
    · exact fun a wx hT hF K hK => rely_wp rfl (opr_move (.inl rfl) (hK _ _ (NewT.refl _) hF.1))
    · exact fun a wx hT hF K hK => rely_if (rely_gf hF.2.1) (NewT.refl _) hK fun hE hK => opr_fldY1 rfl hF.1 (hK _ _ (NewT.refl _) rfl)
    · exact fun a wx hT hF K hK => rely_if (rely_gf hF.2.1) (NewT.refl _) hK fun hE hK => opr_ldHs (hT.row RK.out) (by decide) rfl rfl (hF.1 hE) (hK _ _ (NewT.refl _) rfl)
    · intro a wx hT hF K hK
      obtain ⟨f24, f22, _⟩ := hF
      have f24 : ((!(decide (20 < ((List.length (ps) : Int)))))) = true → a.tmps.getD 24 undef = wv := f24
      have f22 : a.tmps.getD 22 undef = .bool (decide (20 < ((List.length (ps) : Int)))) := f22
      refine rely_if (rely_gf f22) (NewT.refl _) hK (fun hE hK => ?_)
      exact opr_len_h rfl (by rw [eval_tmp, (f24 hE)]; exact ((NewT.trans _ _ _ HM.out hT).hs HW.out)) (hK _ _ (NewT.refl _) rfl)
    · exact fun a wx hT hF K hK => rely_if (rely_gf hF.2.1) (NewT.refl _) hK fun hE hK => opr_cmp (b := decide (20 < ((List.length (ws) : Int)))) (.inr (.inr (.inr (.inr (.inl ⟨rfl, rfl⟩))))) Tryd.underlying3 rfl (hF.1 hE) rfl (hK _ _ (NewT.refl _) rfl)
    · exact fun a wx hT hF K hK => rely_wp rfl (opr_pick_b rfl hF.1 (fun hb => hK _ _ (NewT.refl _) (pn_or1 Q1_3 hb)) (fun hb => hK _ _ (NewT.refl _) (pn_or0 Q1_3 (hF.2.1 (bnot hb)) hb)))
    · exact fun a wx hT hF K hK => rely_wp rfl (opr_move (.inl rfl) (hK _ _ (NewT.refl _) hF.1))
    · exact fun a wx hT hF K hK => rely_if (rely_gf hF.2.1) (NewT.refl _) hK fun hE hK => opr_ldY (hT.row RK.out) rfl hF.1 (hK _ _ (NewT.refl _) rfl)
    · exact fun a wx hT hF K hK => rely_if (rely_gf hF.2.1) (NewT.refl _) hK fun hE hK => opr_cv (May_cv _ ps ws need wx ((NewT.trans _ _ _ HM.out hT).keysV HK.out)) rfl Tryd.func12 (by kernel_rfl) (by kernel_rfl) (evs1 (hF.1 hE)) hK
    · exact fun a wx hT hF K hK => rely_if (rely_gf hF.2.1) (NewT.refl _) hK fun hE hK => opr_not rfl (hF.1 hE) (hK _ _ (NewT.refl _) rfl)
    · exact fun a wx hT hF K hK => rely_wp rfl (opr_pick_b rfl hF.1 (fun hb => hK _ _ (NewT.refl _) (pk_or1 hb)) (fun hb => hK _ _ (NewT.refl _) (pk_or0 (hF.2.1 (bnot hb)) hb)))
    · exact fun a wx hT hF K hK => rely_wp rfl (opr_move (.inl rfl) (hK _ _ (NewT.refl _) hF.1))
    · exact fun a wx hT hF K hK => rely_if (rely_gf hF.2.1) (NewT.refl _) hK fun hE hK => opr_move (.inl rfl) (hK _ _ (NewT.refl _) hF.1)
    · exact fun a wx hT hF K hK => rely_if (rely_gf hF.2.1) (NewT.refl _) hK fun hE hK => opr_cmp (b := decide (size < 0)) (.inr (.inr (.inr (.inl ⟨rfl, rfl⟩)))) Tryd.underlying3 rfl (hF.1 hE) rfl (hK _ _ (NewT.refl _) rfl)
    · exact fun a wx hT hF K hK => rely_wp rfl (opr_pick_b rfl hF.1 (fun hb => hK _ _ (NewT.refl _) (pn_or1 Q2_3 hb)) (fun hb => hK _ _ (NewT.refl _) (pn_or0 Q2_3 (hF.2.1 (bnot hb)) hb)))
    · exact fun a wx hT hF K hK => rely_wp rfl (opr_move (.inl rfl) (hK _ _ (NewT.refl _) hF.1))
    · exact fun a wx hT hF K hK => rely_if (rely_gf hF.2.1) (NewT.refl _) hK fun hE hK => opr_move (.inl rfl) (hK _ _ (NewT.refl _) hF.1)
    · exact fun a wx hT hF K hK => rely_if (rely_gf hF.2.1) (NewT.refl _) hK fun hE hK => opr_cmp (b := decide (400 < size)) (.inr (.inr (.inr (.inr (.inl ⟨rfl, rfl⟩))))) Tryd.underlying3 rfl (hF.1 hE) rfl (hK _ _ (NewT.refl _) rfl)
    · exact fun a wx hT hF K hK => rely_wp rfl (opr_pick_b rfl hF.1 (fun hb => hK _ _ (NewT.refl _) (pk_or1 hb)) (fun hb => hK _ _ (NewT.refl _) (pk_or0 (hF.2.1 (bnot hb)) hb)))
    · intro w3 k3
      iterate 5 (intro u h; obtain rfl := Eq.symm (h (by simp)); clear h)
      iterate 4 (intro _ _)
      iterate 2 (intro u h; obtain rfl := Eq.symm (h (by simp)); clear h)
      iterate 3 (intro _ _)
      iterate 2 (intro u h; obtain rfl := Eq.symm (h (by simp)); clear h)
      iterate 2 (intro _ _)
      iterate 2 (intro u h; obtain rfl := Eq.symm (h (by simp)); clear h)
      iterate 2 (intro _ _)
      intro u h; obtain rfl := Eq.symm (h (by simp)); clear h
      subst Q2_3 Q1_3
      refine relyEnd_nil rfl ?_
      refine wpList_end rfl ?_
      simp only [Act.put, List.setIfInBounds_toArray, List.set_cons_zero, List.set_cons_succ]
      go_simp
      replace RK := Lib.hid (k3.row RK.out)
      replace RH := Lib.hid (k3.row RH.out)
      replace HM := Lib.hid (NewT.trans _ _ _ HM.out k3)
      clear k3
      cases hq : (((((decide (20 < ((List.length (ps) : Int)))) || (decide (20 < ((List.length (ws) : Int))))) || (!(mayB ps ws need))) || (decide (size < 0))) || (decide (400 < size)))
      rotate_left
      · clear hq
        go_wp2
        go_ret
        exact ⟨rfl, HM.out.out⟩
      · have hb : (mayB ps ws need && inR size 0 400) = true := by
          simp only [Bool.or_eq_false_iff, decide_eq_false_iff_not, Bool.not_eq_false'] at hq
          rw [hq.1.1.2, Bool.true_and, inR_iff]
          omega
        obtain ⟨hm, hsz⟩ := Bool.and_eq_true _ _ |>.mp hb
        have HMS := Lib.hid hb
        have HW4 : Hid (ws.length ≤ 4) := Lib.hid ((mayB_iff _ _ _).1 hm).2.1.2
        obtain ⟨sg, hsg⟩ := hid_ex (sgH tg pf ws size root)
        have HSGS : Hid (∀ i : Nat, i < ws.length → signH tg pf ps ws need (i : Int) size root = sg i) := Lib.hid (fun i hi => by rw [signH_eq tg pf hm hsz hi, hsg.out])
        have HSGE : Hid (sgH tg pf ws size root = sg) := Lib.hid hsg.out
        obtain ⟨pk, hpk⟩ := hid_ex (fun i : Nat => n / 2 ^ i % 2 == 1)
        have HPK : Hid (∀ i : Nat, (n / 2 ^ i % 2 == 1) = pk i) := Lib.hid (fun i => by rw [← hpk.out])
        clear hq hb hm hsz hsg hpk
        go_upto_region 5 with fail
        refine wp_region_steps0 NewT [SV.eq (.int .i64 (size)), SV.eq (.agg (rowA 32 (bF (root)))), SV.eq ((.agg (rowA 34 (ptF size root (.slice none 0 0)))))] [([(1, none)], none), ([(7, none)], none), ([(41, some 0), (42, some 1)], none)] 121 3 rfl rfl (by kernel_rfl) NewT.trans (NewT.refl _) (Nat.le_of_ble_eq_true rfl) ⟨?_, ?_, ?_, trivial⟩ ?_
        · exact fun a wx hT hF K hK => rely_wp rfl (opr_move (.inl rfl) (hK _ _ (NewT.refl _) hF.1))
        · exact fun a wx hT hF K hK => rely_wp rfl (opr_load_hash rfl hF.1 (hT.row RH.out) (hK _ _ (NewT.refl _) rfl))
        · exact fun a wx hT hF K hK => rely_wp rfl (opr_bldZ rfl hF.1 hF.2.1 (hK _ _ (NewT.refl _) rfl))
        · intro wa ka
          iterate 3 (intro u h; obtain rfl := Eq.symm (h (by simp)); clear h)
          refine relyEnd_nil rfl ?_
          simp only [Act.put, List.setIfInBounds_toArray, List.set_cons_zero, List.set_cons_succ]
          refine wpList_new (n := 34) (f := ptF size root (.slice none 0 0)) rfl rfl rfl rfl rfl rfl (by first | (simp; done) | simp [Act.put]) run_alloc_pt info_pt (ptF_one (l := []) (rdS_nil wa)) rfl ?_
          intro wb hnb rp
          refine wpList_end rfl ?_
          simp only [Act.put, List.setIfInBounds_toArray, List.set_cons_zero, List.set_cons_succ]
          go_simp
          have kb := NewT.trans _ _ _ ka hnb
          obtain ⟨g11, hg11⟩ : ∃ g11, wa.heap.size = g11 := ⟨_, rfl⟩
          rw [hg11] at rp ⊢
          have HG11 : Hid (g1 < g11 ∧ g2 < g11 ∧ w.heap.size ≤ g11) := Lib.hid (by rw [← hg11]; exact ⟨(ka.row RK.out).lt, (ka.row RH.out).lt, (NewT.trans _ _ _ HM.out ka).out.size⟩)
          have RP := Lib.hid rp
          replace RK := Lib.hid (kb.row RK.out)
          replace RH := Lib.hid (kb.row RH.out)
          replace HM := Lib.hid (NewT.trans _ _ _ HM.out kb)
          have HBP : Hid (g11 < wb.heap.size) := Lib.hid rp.lt
          clear ka kb hnb rp hg11
          obtain ⟨WB, hWB⟩ : ∃ WB, wb = WB := ⟨_, rfl⟩
          subst hWB
          obtain ⟨B0, hB0⟩ : ∃ B0, wb.heap.size = B0 := ⟨_, rfl⟩
          have HBB : Hid (B0 ≤ wb.heap.size) := Lib.hid (by omega)
          have HBQ : Hid (wb.heap.size = B0) := Lib.hid hB0
          clear hB0
          have HWB := Lib.hid HM.out
          have HB : Hid (NewT wb wb) := Lib.hid (NewT.refl _)
          go_wp2
          go_loopw [12, 13, 14] (fun a b c wr => ∃ (k : Nat) (u13 : Value), k ≤ ws.length ∧ c = .int .i64 k ∧ a = .int .i64 ((enT pk sg turn k).length : Int) ∧ b = u13 ∧ Hid (OwnG wr B0 u13 (enT pk sg turn k)) ∧ Hid (NewT wb wr) ∧ Hid (NewT w wr)) (fun _ _ c _ => ws.length - (intOf c).toNat)
          case atStart => exact ⟨0, _, by omega, rfl, rfl, rfl, Lib.hid (ownG_nil _ _), HB, HM⟩
          case round =>
            clear HB HM
            obtain ⟨k, u13, hk, rfl, rfl, rfl, HO, HB, HM⟩ := hrel
            obtain ⟨N, hN⟩ : ∃ N, (enT pk sg turn k).length = N := ⟨_, rfl⟩
            rw [hN]
            have HNE := Lib.hid hN
            have HNL : Hid (N ≤ 4) := Lib.hid (by have := enT_len (pk := pk) (sg := sg) (turn := turn) k; have := HW4.out; omega)
            clear hN
            go_upto_region 9 with fail
            refine wp_region_steps0 NewT [SV.eq (.int .i64 ((k : Int))), SV.eq (.pointer (some ⟨g1, 1, none⟩)), SV.eq (wv), SV.eq (.int .i64 ((List.length (ws) : Int))), SV.eq (.bool (decide (((k : Int)) < ((List.length (ws) : Int)))))] [([(14, none)], none), ([(5, none)], none), ([(45, some 1)], none), ([(46, some 2)], none), ([(44, some 0), (47, some 3)], none)] 121 5 rfl rfl (by kernel_rfl) NewT.trans (NewT.refl _) (Nat.le_of_ble_eq_true rfl) ⟨?_, ?_, ?_, ?_, ?_, trivial⟩ ?_
            · exact fun a wx hT hF K hK => rely_wp rfl (opr_move (.inl rfl) (hK _ _ (NewT.refl _) hF.1))
            · exact fun a wx hT hF K hK => rely_wp rfl (opr_fldY1 rfl hF.1 (hK _ _ (NewT.refl _) rfl))
            · exact fun a wx hT hF K hK => rely_wp rfl (opr_ldHs (hT.row (HB.out.row RK.out)) (by decide) rfl rfl hF.1 (hK _ _ (NewT.refl _) rfl))
            · intro a wx hT hF K hK
              obtain ⟨f46, _⟩ := hF
              have f46 : a.tmps.getD 46 undef = wv := f46
              refine rely_wp rfl ?_
              exact opr_len_h rfl (by rw [eval_tmp, f46]; exact ((NewT.trans _ _ _ HM.out hT).hs HW.out)) (hK _ _ (NewT.refl _) rfl)
            · exact fun a wx hT hF K hK => rely_wp rfl (opr_cmp (b := decide (((k : Int)) < ((List.length (ws) : Int)))) (.inr (.inr (.inr (.inl ⟨rfl, rfl⟩)))) Tryd.underlying3 rfl hF.1 hF.2.1 (hK _ _ (NewT.refl _) rfl))
            · intro wc kc
              iterate 5 (intro u h; obtain rfl := Eq.symm (h (by simp)); clear h)
              refine relyEnd_nil rfl ?_
              refine wpList_end rfl ?_
              simp only [Act.put, List.setIfInBounds_toArray, List.set_cons_zero, List.set_cons_succ]
              go_simp
              replace HB := Lib.hid (NewT.trans _ _ _ HB.out kc)
              replace HM := Lib.hid (NewT.trans _ _ _ HM.out kc)
              replace HO := Lib.hid (HO.out.new kc)
              clear kc
              cases hlt : decide ((k : Int) < (List.length ws : Int))
              rotate_left
              · have hkw : k < ws.length := by rw [decide_eq_true_iff] at hlt; omega
                have HSG : Hid (signH tg pf ps ws need (k : Int) size root = sg k) := Lib.hid (HSGS.out k hkw)
                have HK4 : Hid (k < 4) := Lib.hid (by have := HW4.out; omega)
                obtain ⟨pb, hpb⟩ := hid_ex (pk k)
                have HPB : Hid ((n / 2 ^ k % 2 == 1) = pb) := Lib.hid ((HPK.out k).trans hpb.out)
                have HD8 : Hid (0 ≤ n / 2 ^ k ∧ n / 2 ^ k ≤ 255) := Lib.hid (by
                  have h4 : k = 0 ∨ k = 1 ∨ k = 2 ∨ k = 3 := by have := HK4.out; omega
                  have := HN8.out
                  rcases h4 with rfl | rfl | rfl | rfl <;> simp <;> omega)
                clear hlt
                go_upto_region 11 with fail
                refine wp_region_steps0 NewT [SV.eq ((.int .u8 n)), SV.eq (.int .i64 ((k : Int))), SV.eq ((.int .u64 (k : Int))), SV.eq ((.int .u8 (n / 2 ^ k))), SV.eq ((.int .u8 (n / 2 ^ k % 2))), SV.eq (.bool (pb))] [([(3, none)], none), ([(14, none)], none), ([(52, some 1)], none), ([(51, some 0), (53, some 2)], none), ([(54, some 3)], none), ([(55, some 4)], none)] 121 6 rfl rfl (by kernel_rfl) NewT.trans (NewT.refl _) (Nat.le_of_ble_eq_true rfl) ⟨?_, ?_, ?_, ?_, ?_, ?_, trivial⟩ ?_
                · exact fun a wx hT hF K hK => rely_wp rfl (opr_move (.inl rfl) (hK _ _ (NewT.refl _) hF.1))
                · exact fun a wx hT hF K hK => rely_wp rfl (opr_move (.inl rfl) (hK _ _ (NewT.refl _) hF.1))
                · exact fun a wx hT hF K hK => rely_wp rfl (opr_cvK HK4.out rfl hF.1 (hK _ _ (NewT.refl _) rfl))
                · exact fun a wx hT hF K hK => rely_wp rfl (opr_shr8 HN8.out HK4.out rfl rfl hF.1 hF.2.1 (hK _ _ (NewT.refl _) rfl))
                · exact fun a wx hT hF K hK => rely_wp rfl (opr_and1 HD8.out rfl rfl hF.1 (hK _ _ (NewT.refl _) rfl))
                · exact fun a wx hT hF K hK => rely_wp rfl (opr_eql8 HPB.out rfl hF.1 rfl (hK _ _ (NewT.refl _) rfl))
                · intro wd kd
                  iterate 6 (intro u h; obtain rfl := Eq.symm (h (by simp)); clear h)
                  refine relyEnd_nil rfl ?_
                  refine wpList_end rfl ?_
                  simp only [Act.put, List.setIfInBounds_toArray, List.set_cons_zero, List.set_cons_succ]
                  go_simp
                  replace HB := Lib.hid (NewT.trans _ _ _ HB.out kd)
                  replace HM := Lib.hid (NewT.trans _ _ _ HM.out kd)
                  replace HO := Lib.hid (HO.out.new kd)
                  clear kd
                  cases pb
                  · have HE0 : Hid (enT pk sg turn (k + 1) = enT pk sg turn k) := Lib.hid (by rw [enT, hpb.out]; rfl)
                    have hnn := HNE.out
                    have hk4 := HK4.out
                    go_wp2
                    go_roundw
                    case rel => exact ⟨k + 1, u13, by omega, by go_num, by rw [HE0.out, hnn], rfl, Lib.hid (HE0.out ▸ HO.out), HB, HM⟩
                    case measure => simp [intOf]; omega
                  · go_upto_region 12 with fail
                    refine wp_region_steps0 NewT [SV.eq (.int .i64 ((k : Int))), SV.eq (.agg (rowA 3 (keyF pv wv need))), SV.eq (.int .i64 ((k : Int))), SV.eq (.agg (rowA 34 (ptF size root (.slice none 0 0)))), SV.eq (.agg (rowA 32 (bF ((sg k))))), SV.eq ((.agg (rowA 33 (sigF ((k : Int), sg k)))))] [([(14, none)], none), ([(5, none)], none), ([(14, none)], none), ([(11, none)], none), ([(58, some 1), (59, some 2), (60, some 3)], none), ([(57, some 0), (61, some 4)], none)] 121 6 rfl rfl (by kernel_rfl) NewT.trans (NewT.refl _) (Nat.le_of_ble_eq_true rfl) ⟨?_, ?_, ?_, ?_, ?_, ?_, trivial⟩ ?_
                    · exact fun a wx hT hF K hK => rely_wp rfl (opr_move (.inl rfl) (hK _ _ (NewT.refl _) hF.1))
                    · exact fun a wx hT hF K hK => rely_wp rfl (opr_ldY (hT.row (HB.out.row RK.out)) rfl hF.1 (hK _ _ (NewT.refl _) rfl))
                    · exact fun a wx hT hF K hK => rely_wp rfl (opr_move (.inl rfl) (hK _ _ (NewT.refl _) hF.1))
                    · exact fun a wx hT hF K hK => rely_wp rfl (opr_ldZ (hT.row (HB.out.row RP.out)) rfl hF.1 (hK _ _ (NewT.refl _) rfl))
                    · exact fun a wx hT hF K hK => rely_wp rfl (opr_cv (HSG.out ▸ Sign_cv hX _ _ ps ws need (k : Int) size root [] wx ((NewT.trans _ _ _ HM.out hT).tables HT.out) ((NewT.trans _ _ _ HM.out hT).keysV HK.out) (⟨(.slice none 0 0), rfl, rdS_nil wx⟩ : PointV wx (.agg (rowA 34 (ptF size root (.slice none 0 0)))) size root [])) rfl Tryd.func20 (by kernel_rfl) (by kernel_rfl) (evs3 hF.1 hF.2.1 hF.2.2.1) hK)
                    · exact fun a wx hT hF K hK => rely_wp rfl (opr_bldX rfl hF.1 hF.2.1 (hK _ _ (NewT.refl _) rfl))
                    · intro we ke
                      iterate 6 (intro u h; obtain rfl := Eq.symm (h (by simp)); clear h)
                      refine relyEnd_nil rfl ?_
                      simp only [Act.put, List.setIfInBounds_toArray, List.set_cons_zero, List.set_cons_succ]
                      refine wpList_new (n := 33) (f := sigF ((k : Int), sg k)) rfl rfl rfl rfl rfl rfl (by first | (simp; done) | simp [Act.put]) run_alloc_sig infoGs (sigF_one _) rfl ?_
                      intro wf hnf r15
                      refine wpList_end rfl ?_
                      simp only [Act.put, List.setIfInBounds_toArray, List.set_cons_zero, List.set_cons_succ]
                      go_simp
                      have kx := NewT.trans _ _ _ ke hnf
                      obtain ⟨g15, hg15⟩ : ∃ g15, we.heap.size = g15 := ⟨_, rfl⟩
                      rw [hg15] at r15 ⊢
                      have R15 := Lib.hid r15
                      replace HB := Lib.hid (NewT.trans _ _ _ HB.out kx)
                      replace HM := Lib.hid (NewT.trans _ _ _ HM.out kx)
                      replace HO := Lib.hid (HO.out.new kx)
                      clear ke kx hnf r15 hg15
                      go_upto_region 13 with fail
                      refine wp_region_steps0 NewT [SV.eq (.int .i64 ((N : Int))), SV.eq (.int .i64 ((N : Int) + 1)), SV.eq (.int .i64 ((N : Int) + 1))] [([(12, none)], none), ([(63, some 0)], none), ([(64, some 1)], none)] 121 3 rfl rfl (by kernel_rfl) NewT.trans (NewT.refl _) (Nat.le_of_ble_eq_true rfl) ⟨?_, ?_, ?_, trivial⟩ ?_
                      · exact fun a wx hT hF K hK => rely_wp rfl (opr_move (.inl rfl) (hK _ _ (NewT.refl _) hF.1))
                      · exact fun a wx hT hF K hK => rely_wp rfl (opr_add (r := (N : Int) + 1) Tryd.underlying3 (by have := HNL.out; unfold wrap64; omega) rfl hF.1 rfl (hK _ _ (NewT.refl _) rfl))
                      · exact fun a wx hT hF K hK => rely_wp rfl (opr_move (.inr rfl) (hK _ _ (NewT.refl _) hF.1))
                      · intro wg kg
                        iterate 3 (intro u h; obtain rfl := Eq.symm (h (by simp)); clear h)
                        refine relyEnd_nil rfl ?_
                        refine wpList_end rfl ?_
                        simp only [Act.put, List.setIfInBounds_toArray, List.set_cons_zero, List.set_cons_succ]
                        go_simp
                        replace HB := Lib.hid (NewT.trans _ _ _ HB.out kg)
                        replace HM := Lib.hid (NewT.trans _ _ _ HM.out kg)
                        replace HO := Lib.hid (HO.out.new kg)
                        replace R15 := Lib.hid (kg.row R15.out)
                        clear kg
                        have HL1 : Hid (((enT pk sg turn (k + 1)).length : Int) = (N : Int) + 1) := Lib.hid (by
                          have := HNE.out
                          rw [enT, hpb.out, if_pos rfl]
                          split <;> simp <;> omega)
                        cases turn
                        · have HE1 : Hid (enT pk sg false k ++ [((k : Int), sg k)] = enT pk sg false (k + 1)) := Lib.hid (by rw [enT, hpb.out]; rfl)
                          go_upto_region 16 with fail
                          refine wp_region_steps0 NewT [SV.eq (u13), SV.eq (.agg (rowA 33 (sigF ((k : Int), sg k)))), svG [((k : Int), sg k)]] [([(13, none)], none), ([(15, none)], none), ([(71, some 1)], none)] 121 3 rfl rfl (by kernel_rfl) NewT.trans (NewT.refl _) (Nat.le_of_ble_eq_true rfl) ⟨?_, ?_, ?_, trivial⟩ ?_
                          · exact fun a wx hT hF K hK => rely_wp rfl (opr_move (.inl rfl) (hK _ _ (NewT.refl _) hF.1))
                          · exact fun a wx hT hF K hK => rely_wp rfl (opr_ldX (hT.row R15.out) rfl hF.1 (hK _ _ (NewT.refl _) rfl))
                          · exact fun a wx hT hF K hK => rely_wp rfl (opr_bsG1 rfl hF.1 hK)
                          · intro wh kh
                            iterate 2 (intro u h; obtain rfl := Eq.symm (h (by simp)); clear h)
                            intro u72 h; have g72 := h (by simp); clear h; replace g72 := show (svG [((k : Int), sg k)]).pred u72 wh from g72
                            refine relyEnd_nil rfl ?_
                            simp only [Act.put, List.setIfInBounds_toArray, List.set_cons_zero, List.set_cons_succ]
                            refine wpList_plain rfl (fun K hK => ?_)
                            obtain ⟨v', w', hrun, ho', hg'⟩ := run_appG (B := B0) (l := (enT pk sg false k)) (m := [((k : Int), sg k)]) (HO.out.new kh) g72 (by have := HNL.out; have := HK4.out; have := enT_len (pk := pk) (sg := sg) (turn := false) k; simp only [List.length_cons, List.length_nil]; omega) (Nat.le_trans HBB.out (Nat.le_trans HB.out.out.size kh.out.size)) 38
                            have hbel : Below wb.heap.size wh w' := by
                              rw [HBQ.out]
                              exact (Below.refl B0 wh).grown hg' (Nat.le_trans HBB.out (Nat.le_trans HB.out.out.size kh.out.size)) (fun k hk => (OwnG.lt (HO.out.new kh) k hk).1)
                            refine opr_append rfl rfl rfl hrun (hK _ _ ?_)
                            clear hrun hg' hK K
                            refine wpList_plain rfl (fun K hK => ?_)
                            refine opr_move (.inr rfl) (hK _ _ ?_)
                            clear hK K
                            refine wpList_end rfl ?_
                            simp only [Act.put, List.setIfInBounds_toArray, List.set_cons_zero, List.set_cons_succ]
                            have HO' := Lib.hid ho'
                            have HB' : Hid (NewT wb w') := Lib.hid (NewT.of (HB.out.out.trans ((kh.out.mono HB.out.out.size).trans hbel)))
                            have HM' : Hid (NewT w w') := Lib.hid (NewT.trans _ _ _ HWB.out HB'.out)
                            clear ho' hbel
                            have hk4 := HK4.out
                            go_simp
                            go_wp2
                            go_roundw
                            case rel => exact ⟨k + 1, v', by omega, by go_num, by rw [HL1.out], rfl, Lib.hid (HE1.out ▸ HO'.out), HB', HM'⟩
                            case measure => simp [intOf]; omega
                        · have HE1 : Hid ([((k : Int), sg k)] ++ enT pk sg true k = enT pk sg true (k + 1)) := Lib.hid (by rw [enT, hpb.out]; rfl)
                          go_upto_region 15 with fail
                          refine wp_region_steps0 NewT [SV.eq (.agg (rowA 33 (sigF ((k : Int), sg k)))), svOG B0 [((k : Int), sg k)], SV.eq (u13)] [([(15, none)], none), ([(66, some 0)], none), ([(13, none)], none)] 121 3 rfl rfl (by kernel_rfl) NewT.trans (NewT.refl _) (Nat.le_of_ble_eq_true rfl) ⟨?_, ?_, ?_, trivial⟩ ?_
                          · exact fun a wx hT hF K hK => rely_wp rfl (opr_ldX (hT.row R15.out) rfl hF.1 (hK _ _ (NewT.refl _) rfl))
                          · exact fun a wx hT hF K hK => rely_wp rfl (opr_bsG1O (B := B0) (Nat.le_trans HBB.out (Nat.le_trans HB.out.out.size hT.out.size)) rfl hF.1 hK)
                          · exact fun a wx hT hF K hK => rely_wp rfl (opr_move (.inl rfl) (hK _ _ (NewT.refl _) hF.1))
                          · intro wh kh
                            intro u h; obtain rfl := Eq.symm (h (by simp)); clear h
                            intro u67 h; have g67 := h (by simp); clear h; replace g67 := show (svOG B0 [((k : Int), sg k)]).pred u67 wh from g67
                            intro u h; obtain rfl := Eq.symm (h (by simp)); clear h
                            refine relyEnd_nil rfl ?_
                            simp only [Act.put, List.setIfInBounds_toArray, List.set_cons_zero, List.set_cons_succ]
                            refine wpList_plain rfl (fun K hK => ?_)
                            obtain ⟨v', w', hrun, ho', hg'⟩ := run_appG (B := B0) (l := [((k : Int), sg k)]) (m := (enT pk sg true k)) g67 (kh.sigs HO.out.rd) (by have := HNL.out; have := HK4.out; have := enT_len (pk := pk) (sg := sg) (turn := true) k; simp only [List.length_cons, List.length_nil]; omega) (Nat.le_trans HBB.out (Nat.le_trans HB.out.out.size kh.out.size)) 38
                            have hbel : Below wb.heap.size wh w' := by
                              rw [HBQ.out]
                              exact (Below.refl B0 wh).grown hg' (Nat.le_trans HBB.out (Nat.le_trans HB.out.out.size kh.out.size)) (fun k hk => (OwnG.lt g67 k hk).1)
                            refine opr_append rfl rfl rfl hrun (hK _ _ ?_)
                            clear hrun hg' hK K
                            refine wpList_plain rfl (fun K hK => ?_)
                            refine opr_move (.inr rfl) (hK _ _ ?_)
                            clear hK K
                            refine wpList_end rfl ?_
                            simp only [Act.put, List.setIfInBounds_toArray, List.set_cons_zero, List.set_cons_succ]
                            have HO' := Lib.hid ho'
                            have HB' : Hid (NewT wb w') := Lib.hid (NewT.of (HB.out.out.trans ((kh.out.mono HB.out.out.size).trans hbel)))
                            have HM' : Hid (NewT w w') := Lib.hid (NewT.trans _ _ _ HWB.out HB'.out)
                            clear ho' hbel
                            have hk4 := HK4.out
                            go_simp
                            go_wp2
                            go_roundw
                            case rel => exact ⟨k + 1, v', by omega, by go_num, by rw [HL1.out], rfl, Lib.hid (HE1.out ▸ HO'.out), HB', HM'⟩
                            case measure => simp [intOf]; omega
              · obtain rfl : k = ws.length := by rw [decide_eq_false_iff_not] at hlt; omega
                clear hlt
                obtain ⟨L, hL⟩ := hid_ex (enT pk sg turn ws.length)
                replace HO := Lib.hid (hL.out ▸ HO.out)
                have HNL2 : Hid (L.length = N) := Lib.hid (by rw [← hL.out]; exact HNE.out)
                obtain ⟨hm, hsz⟩ := Bool.and_eq_true _ _ |>.mp HMS.out
                have HCC : Hid (checkI ps ws need size (sgH tg pf ws size root) L = if need ≤ L.length then 0 else 8) := Lib.hid (by rw [HSGE.out, ← hL.out]; exact en_check hm hsz)
                have HMEM : Hid (∀ s ∈ L, ∃ i, i < ws.length ∧ s = ((i : Int), sg i)) := Lib.hid (by rw [← hL.out]; exact fun s h => enT_mem h)
                clear hL hm hsz HNE
                obtain ⟨A13, c13, hv13, _⟩ := HO.out.cap
                subst hv13
                have HG := Lib.hid HO.out.rdB
                replace RK := Lib.hid (HB.out.row RK.out)
                replace RP := Lib.hid (HB.out.row RP.out)
                have HGB : Hid (g11 < B0) := Lib.hid (by have := HBP.out; have := HBQ.out; omega)
                have HCB : Hid (B0 ≤ wc.heap.size) := Lib.hid (Nat.le_trans HBB.out HB.out.out.size)
                clear HO HB HWB
                go_upto_region 17 with fail
                refine wp_region_steps0 NewT [SV.eq ((.slice A13 (List.length L) c13)), SV.eq (.pointer (some ⟨g11, 33, none⟩))] [([(13, none)], none), ([(11, none)], none)] 121 2 rfl rfl (by kernel_rfl) NewT.trans (NewT.refl _) (Nat.le_of_ble_eq_true rfl) ⟨?_, ?_, trivial⟩ ?_
                · exact fun a wx hT hF K hK => rely_wp rfl (opr_move (.inl rfl) (hK _ _ (NewT.refl _) hF.1))
                · exact fun a wx hT hF K hK => rely_wp rfl (opr_fldZ2 rfl hF.1 (hK _ _ (NewT.refl _) rfl))
                · intro wi ki
                  iterate 2 (intro u h; obtain rfl := Eq.symm (h (by simp)); clear h)
                  refine relyEnd_nil rfl ?_
                  simp only [Act.put, List.setIfInBounds_toArray, List.set_cons_zero, List.set_cons_succ]
                  refine wpList_plain rfl (fun K hK => ?_)
                  refine opr_put1 (g := g11) (o0 := 33) (F := ptF size root (.slice A13 (List.length L) c13)) rfl rfl rfl (ki.row RP.out) (by decide) info_ssl1 rfl (fun i hi => ptF_sigs _ _ _ _ i hi) ?_
                  intro wj hRj rpj
                  refine hK _ _ ?_
                  refine wpList_end rfl ?_
                  simp only [Act.put, List.setIfInBounds_toArray, List.set_cons_zero, List.set_cons_succ]
                  go_simp
                  replace HG := Lib.hid ((HG.out.new ki).rt HGB.out hRj)
                  have HPT : Hid (PointV wj (.agg (rowA 34 (ptF size root (.slice A13 (List.length L) c13)))) size root L) := Lib.hid ⟨_, rfl, HG.out.1⟩
                  replace RP := Lib.hid rpj
                  have HCJ : Hid (B0 ≤ wj.heap.size) := Lib.hid (Nat.le_trans HCB.out (Nat.le_trans ki.out.size hRj.size))
                  replace RK := Lib.hid (hRj.row (by have := HG11.out; omega) (ki.row RK.out))
                  replace HM := Lib.hid (NewT.rt (NewT.trans _ _ _ HM.out ki) hRj (by have := HG11.out; omega))
                  clear ki hRj rpj
                  obtain ⟨c1, HC1⟩ := hid_ex (checkI ps ws need size (sgH tg pf ws size root) L)
                  obtain ⟨gb, HGB2⟩ := hid_ex (decide (need ≤ (N : Int)))
                  have HGB1 : Hid ((c1 == 0) = gb) := Lib.hid (by
                    have h1 := HCC.out
                    rw [HC1.out, HNL2.out] at h1
                    rw [← HGB2.out, h1]
                    by_cases h : need ≤ (N : Int)
                    · rw [if_pos h, decide_eq_true h]; rfl
                    · rw [if_neg h, decide_eq_false h]; rfl)
                  go_upto_region 18 with fail
                  refine wp_region_rely (NewT) [SV.eq (.agg (rowA 3 (keyF pv wv need))), SV.eq (.agg (rowA 34 (ptF size root (.slice A13 (List.length L) c13)))), SV.eq (.int .i64 (c1)), SV.eq (.bool (gb)), SV.eq (.int .i64 ((N : Int))), SV.eq (.pointer (some ⟨g1, 2, none⟩)), SV.eq (.int .i64 (need)), SV.eq (.bool (gb))] [([(5, none)], none), ([(11, none)], none), ([(76, some 0), (77, some 1)], none), ([(78, some 2)], none), ([(12, none)], none), ([(5, none)], none), ([(81, some 5)], none), ([(80, some 4), (82, some 6)], none)] 121 rfl (by kernel_rfl) rfl (by kernel_rfl) (by kernel_rfl) rfl NewT.trans (NewT.drew _) (Nat.le_of_ble_eq_true rfl) ⟨?_, ?_, ?_, ?_, ?_, ?_, ?_, ?_, trivial⟩ ?_
                  · exact fun a wx hT hF K hK => rely_wp rfl (opr_ldY (hT.row RK.out) rfl hF.1 (hK _ _ (NewT.refl _) rfl))
                  · exact fun a wx hT hF K hK => rely_wp rfl (opr_ldZ (hT.row RP.out) rfl hF.1 (hK _ _ (NewT.refl _) rfl))
                  · exact fun a wx hT hF K hK => rely_wp rfl (opr_cv (HC1.out ▸ Check_cv hX _ _ ps ws need size root L wx ((NewT.trans _ _ _ HM.out hT).tables HT.out) ((NewT.trans _ _ _ HM.out hT).keysV HK.out) (hT.pointV HPT.out)) rfl Tryd.func22 (by kernel_rfl) (by kernel_rfl) (evs2 hF.1 hF.2.1) hK)
                  · exact fun a wx hT hF K hK => rely_wp rfl (opr_cmp (b := gb) (.inl ⟨rfl, (by exact HGB1.out)⟩) Tryd.underlying42 rfl hF.1 rfl (hK _ _ (NewT.refl _) rfl))
                  · exact fun a wx hT hF K hK => rely_wp rfl (opr_move (.inl rfl) (hK _ _ (NewT.refl _) hF.1))
                  · exact fun a wx hT hF K hK => rely_wp rfl (opr_fldY2 rfl hF.1 (hK _ _ (NewT.refl _) rfl))
                  · exact fun a wx hT hF K hK => rely_wp rfl (opr_ldI (hT.row RK.out) (by decide) rfl rfl hF.1 (hK _ _ (NewT.refl _) rfl))
                  · exact fun a wx hT hF K hK => rely_wp rfl (opr_cmp (b := gb) (.inr (.inr (.inr (.inr (.inr (⟨rfl, (by exact HGB2.out)⟩)))))) Tryd.underlying3 rfl hF.1 hF.2.1 (hK _ _ (NewT.refl _) rfl))
                  · intro wk kk
                    iterate 8 (intro u h; obtain rfl := Eq.symm (h (by simp)); clear h)
                    refine relyEnd_nil rfl ?_
                    simp only [Act.put, List.setIfInBounds_toArray, List.set_cons_zero, List.set_cons_succ]
                    refine opr_neqQ (b := false) (by cases gb <;> rfl) rfl rfl rfl ?_
                    go_simp
                    replace HG := Lib.hid (HG.out.new kk)
                    replace HPT := Lib.hid (kk.pointV HPT.out)
                    replace RK := Lib.hid (kk.row RK.out)
                    replace RP := Lib.hid (kk.row RP.out)
                    replace HM := Lib.hid (NewT.trans _ _ _ HM.out kk)
                    have HBM : Hid (B0 ≤ wk.heap.size) := Lib.hid (Nat.le_trans HCJ.out kk.out.size)
                    clear kk
                    rcases Nat.eq_zero_or_pos N with h0 | h0
                    · subst h0
                      go_wp2
                      go_ret
                      exact ⟨rfl, HM.out.out⟩
                    have HL0 : Hid (0 < L.length) := Lib.hid (by rw [HNL2.out]; exact h0)
                    have hn0 : ((N : Int) == 0) = false := beq_eq_false_iff_ne.2 (by omega)
                    obtain ⟨s0, t0, hLs⟩ : ∃ s0 t0, L = s0 :: t0 := by
                      cases hc : L with
                      | nil => have := HL0.out; rw [hc] at this; simp at this
                      | cons s t => exact ⟨s, t, rfl⟩
                    obtain ⟨i0, hi0, hs0⟩ := HMEM.out s0 (by rw [hLs]; simp)
                    have HS0 : Hid (L[0]? = some s0) := Lib.hid (by rw [hLs]; rfl)
                    have HLS : Hid (L = ((i0 : Int), sg i0) :: t0) := Lib.hid (by rw [hLs, hs0])
                    have HC2 : Hid (checkI ps ws need size (sgH tg pf ws size root) (L ++ [s0]) = 8) := Lib.hid (twice_check hLs HMS.out)
                    have HC3 : Hid (checkI ps ws need size (sgH tg pf ws size root) (((i0 : Int), incH (sg i0)) :: t0) = 8) := Lib.hid (by rw [HSGE.out]; exact turned_check (incH_ne _) HMS.out)
                    clear hLs hs0 hi0 h0
                    go_upto_region 22 with fail
                    refine wp_region_rely (NewT) [SV.eq ((.slice A13 (List.length L) c13)), SV.eq ((.slice A13 (List.length L) c13)), SV.eq (.int .i64 ((List.length (L) : Int))), SV.eq ((.slice A13 (List.length L) c13)), SV.eq (.int .i64 ((List.length (L) : Int))), svGF L, SV.eq ((.slice A13 (List.length L) c13)), svPG s0, SV.eq ((.agg (rowA 33 (sigF s0)))), svG [s0], svGN B0 (L ++ [s0]), SV.eq (.pointer (some ⟨g11, 33, none⟩))] [([(13, none)], none), ([(13, none)], none), ([(88, some 1)], none), ([(13, none)], none), ([(90, some 3)], none), ([(87, some 0), (89, some 2), (91, some 4)], none), ([(13, none)], none), ([(93, some 6)], none), ([(94, some 7)], none), ([(95, some 8)], none), ([(92, some 5), (96, some 9)], none), ([(11, none)], none)] 121 rfl (by kernel_rfl) rfl (by kernel_rfl) (by kernel_rfl) rfl NewT.trans (NewT.drew _) (Nat.le_of_ble_eq_true rfl) ⟨?_, ?_, ?_, ?_, ?_, ?_, ?_, ?_, ?_, ?_, ?_, ?_, trivial⟩ ?_
                    · exact fun a wx hT hF K hK => rely_wp rfl (opr_move (.inl rfl) (hK _ _ (NewT.refl _) hF.1))
                    · exact fun a wx hT hF K hK => rely_wp rfl (opr_move (.inl rfl) (hK _ _ (NewT.refl _) hF.1))
                    · intro a wx hT hF K hK
                      obtain ⟨f88, _⟩ := hF
                      have f88 : a.tmps.getD 88 undef = (.slice A13 (List.length L) c13) := f88
                      refine rely_wp rfl ?_
                      exact opr_len_g rfl (by rw [eval_tmp, f88]; exact (hT.sigs HG.out.1)) (hK _ _ (NewT.refl _) rfl)
                    · exact fun a wx hT hF K hK => rely_wp rfl (opr_move (.inl rfl) (hK _ _ (NewT.refl _) hF.1))
                    · intro a wx hT hF K hK
                      obtain ⟨f90, _⟩ := hF
                      have f90 : a.tmps.getD 90 undef = (.slice A13 (List.length L) c13) := f90
                      refine rely_wp rfl ?_
                      exact opr_len_g rfl (by rw [eval_tmp, f90]; exact (hT.sigs HG.out.1)) (hK _ _ (NewT.refl _) rfl)
                    · intro a wx hT hF K hK
                      obtain ⟨f87, f89, f91, _⟩ := hF
                      have f87 : a.tmps.getD 87 undef = (.slice A13 (List.length L) c13) := f87
                      have f89 : a.tmps.getD 89 undef = .int .i64 ((List.length (L) : Int)) := f89
                      have f91 : a.tmps.getD 91 undef = .int .i64 ((List.length (L) : Int)) := f91
                      refine rely_wp rfl ?_
                      exact opr_to3G rfl (by rw [eval_tmp, f87]; exact hT.sigs HG.out.1) f89 f91 (fun v hv => hK v _ (NewT.refl _) hv)
                    · exact fun a wx hT hF K hK => rely_wp rfl (opr_move (.inl rfl) (hK _ _ (NewT.refl _) hF.1))
                    · intro a wx hT hF K hK
                      obtain ⟨f93, _⟩ := hF
                      have f93 : a.tmps.getD 93 undef = (.slice A13 (List.length L) c13) := f93
                      refine rely_wp rfl ?_
                      exact opr_idxG (i := 0) (d := s0) HS0.out rfl rfl (by rw [eval_tmp, f93]; exact hT.sigs HG.out.1) rfl (fun v hv => hK v _ (NewT.refl _) hv)
                    · exact fun a wx hT hF K hK => rely_wp rfl (opr_ldPG rfl hF.1 (hK _ _ (NewT.refl _) rfl))
                    · exact fun a wx hT hF K hK => rely_wp rfl (opr_bsG1 rfl hF.1 hK)
                    · exact fun a wx hT hF K hK => rely_wp rfl (opr_appGF (B := B0) (Nat.le_trans HBM.out hT.out.size) (by simp) (by have := HNL.out; have := HNL2.out; simp only [List.length_cons, List.length_nil]; omega) rfl hF.1 hF.2.1 hK)
                    · exact fun a wx hT hF K hK => rely_wp rfl (opr_fldZ2 rfl hF.1 (hK _ _ (NewT.refl _) rfl))
                    · intro wm km
                      iterate 5 (intro u h; obtain rfl := Eq.symm (h (by simp)); clear h)
                      intro _ _
                      intro u h; obtain rfl := Eq.symm (h (by simp)); clear h
                      intro _ _
                      intro u h; obtain rfl := Eq.symm (h (by simp)); clear h
                      intro _ _
                      intro u97 h; have g97 := h (by simp); clear h; replace g97 := show (svGN B0 (L ++ [s0])).pred u97 wm from g97
                      intro u h; obtain rfl := Eq.symm (h (by simp)); clear h
                      refine relyEnd_nil rfl ?_
                      simp only [Act.put, List.setIfInBounds_toArray, List.set_cons_zero, List.set_cons_succ]
                      obtain ⟨A97, c97, hv97⟩ := rdS_form (RdSB.rds g97)
                      subst hv97
                      refine opr_put1 (g := g11) (o0 := 33) (F := ptF size root (.slice A97 (List.length (L ++ [s0])) c97)) rfl rfl rfl (km.row RP.out) (by decide) info_ssl1 rfl (fun i hi => ptF_sigs _ _ _ _ i hi) ?_
                      intro wn hRn rpn
                      go_simp
                      have HG2 : Hid (RdSB B0 wn (.slice A97 (List.length (L ++ [s0])) c97) (L ++ [s0])) := Lib.hid (RdSB.rt g97 HGB.out hRn)
                      replace HG := Lib.hid ((HG.out.new km).rt HGB.out hRn)
                      replace HPT : Hid (PointV wn (.agg (rowA 34 (ptF size root (.slice A97 (List.length (L ++ [s0])) c97)))) size root (L ++ [s0])) := Lib.hid ⟨_, rfl, HG2.out.1⟩
                      replace RP := Lib.hid rpn
                      replace RK := Lib.hid (hRn.row (by have := HG11.out; omega) (km.row RK.out))
                      replace HM := Lib.hid (NewT.rt (NewT.trans _ _ _ HM.out km) hRn (by have := HG11.out; omega))
                      clear km hRn rpn g97
                      go_upto_region 23 with fail
                      refine wp_region_steps0 NewT [SV.eq (.agg (rowA 3 (keyF pv wv need))), SV.eq (.agg (rowA 34 (ptF size root (.slice A97 (List.length (L ++ [s0])) c97)))), SV.eq (.int .i64 (8)), SV.eq (.bool false)] [([(5, none)], none), ([(11, none)], none), ([(99, some 0), (100, some 1)], none), ([(101, some 2)], none)] 121 4 rfl rfl (by kernel_rfl) NewT.trans (NewT.refl _) (Nat.le_of_ble_eq_true rfl) ⟨?_, ?_, ?_, ?_, trivial⟩ ?_
                      · exact fun a wx hT hF K hK => rely_wp rfl (opr_ldY (hT.row RK.out) rfl hF.1 (hK _ _ (NewT.refl _) rfl))
                      · exact fun a wx hT hF K hK => rely_wp rfl (opr_ldZ (hT.row RP.out) rfl hF.1 (hK _ _ (NewT.refl _) rfl))
                      · exact fun a wx hT hF K hK => rely_wp rfl (opr_cv (HC2.out ▸ Check_cv hX _ _ ps ws need size root (L ++ [s0]) wx ((NewT.trans _ _ _ HM.out hT).tables HT.out) ((NewT.trans _ _ _ HM.out hT).keysV HK.out) (hT.pointV HPT.out)) rfl Tryd.func22 (by kernel_rfl) (by kernel_rfl) (evs2 hF.1 hF.2.1) hK)
                      · exact fun a wx hT hF K hK => rely_wp rfl (opr_cmp (b := false) (.inr (.inl ⟨rfl, (by decide)⟩)) Tryd.underlying42 rfl hF.1 rfl (hK _ _ (NewT.refl _) rfl))
                      · intro wo ko
                        iterate 4 (intro u h; obtain rfl := Eq.symm (h (by simp)); clear h)
                        refine relyEnd_nil rfl ?_
                        refine wpList_end rfl ?_
                        simp only [Act.put, List.setIfInBounds_toArray, List.set_cons_zero, List.set_cons_succ]
                        go_simp
                        replace HG := Lib.hid (HG.out.new ko)
                        replace RK := Lib.hid (ko.row RK.out)
                        replace RP := Lib.hid (ko.row RP.out)
                        replace HM := Lib.hid (NewT.trans _ _ _ HM.out ko)
                        clear ko HPT HG2
                        go_upto_region 25 with fail
                        refine wp_region_steps0 NewT [svOG wo.heap.size [], SV.eq ((.slice A13 (List.length L) c13))] [([], none), ([(13, none)], none)] 121 2 rfl rfl (by kernel_rfl) NewT.trans (NewT.refl _) (Nat.le_of_ble_eq_true rfl) ⟨?_, ?_, trivial⟩ ?_
                        · exact fun a wx hT hF K hK => rely_wp rfl (opr_bsG0 (B := wo.heap.size) rfl hT.out.size hK)
                        · exact fun a wx hT hF K hK => rely_wp rfl (opr_move (.inl rfl) (hK _ _ (NewT.refl _) hF.1))
                        · intro wp_ kp
                          intro u103 h; have g103 := h (by simp); clear h; replace g103 := show (svOG wo.heap.size []).pred u103 wp_ from g103
                          intro u h; obtain rfl := Eq.symm (h (by simp)); clear h
                          refine relyEnd_nil rfl ?_
                          simp only [Act.put, List.setIfInBounds_toArray, List.set_cons_zero, List.set_cons_succ]
                          refine wpList_plain rfl (fun K hK => ?_)
                          obtain ⟨v', w', hrun, ho', hg'⟩ := run_appG (B := wo.heap.size) (l := []) (m := L) g103 (kp.sigs HG.out.1) (by have := HNL.out; have := HNL2.out; simp only [List.length_nil]; omega) kp.out.size 38
                          have hbel := kp.out.trans ((Below.refl wo.heap.size wp_).grown hg' kp.out.size (fun k hk => (OwnG.lt g103 k hk).1))
                          refine opr_append rfl rfl rfl hrun (hK _ _ ?_)
                          clear hrun hg' hK K
                          rw [List.nil_append] at ho'
                          obtain ⟨gq, capq, nq, Fq, rfl, hgq, hcq, hmq, rq, hnq, hFq⟩ := ho'.open HL0.out
                          have HKN := Lib.hid (NewT.of hbel)
                          have HQ := Lib.hid (show wo.heap.size ≤ gq ∧ L.length ≤ capq ∧ capq ≤ maxLen ∧ L.length * 33 ≤ nq from ⟨hgq, hcq, hmq, hnq⟩)
                          have HFQ := Lib.hid hFq
                          have RQ := Lib.hid rq
                          clear ho' hbel hgq hcq hmq hnq hFq rq
                          refine wpList_plain rfl (fun K hK => ?_)
                          refine opr_fldZ2 rfl rfl (hK _ _ ?_)
                          clear hK K
                          simp only [Act.put, List.setIfInBounds_toArray, List.set_cons_zero, List.set_cons_succ]
                          refine wpList_plain rfl (fun K hK => ?_)
                          refine opr_put1 (g := g11) (o0 := 33) (F := ptF size root (.slice (some ⟨gq, 0, none⟩) (List.length L) capq)) rfl rfl rfl (HKN.out.row RP.out) (by decide) info_ssl1 rfl (fun i hi => ptF_sigs _ _ _ _ i hi) ?_
                          intro wq hRq rpq
                          refine hK _ _ ?_
                          refine wpList_end rfl ?_
                          simp only [Act.put, List.setIfInBounds_toArray, List.set_cons_zero, List.set_cons_succ]
                          go_simp
                          have HGQ : Hid (g11 < gq ∧ g1 < gq ∧ w.heap.size ≤ gq) := Lib.hid (by
                            have h1 := HQ.out.1
                            have h2 := RP.out.lt
                            have h3 := RK.out.lt
                            have h4 := HM.out.out.size
                            exact ⟨by omega, by omega, by omega⟩)
                          replace RQ := Lib.hid (hRq.row (by have := HGQ.out; omega) RQ.out)
                          replace RK := Lib.hid (hRq.row (by have := HG11.out; omega) (HKN.out.row RK.out))
                          replace RP := Lib.hid rpq
                          replace HM := Lib.hid (NewT.rt (NewT.trans _ _ _ HM.out HKN.out) hRq (by have := HG11.out; omega))
                          have HN1 : Hid (0 + 1 < nq) := Lib.hid (by have := HQ.out.2.2.2; have := HL0.out; omega)
                          have HF1 : Hid (Fq (0 + 1) = .int .u8 (bN (sg i0 0))) := Lib.hid (HFQ.out 0 ((i0 : Int), sg i0) (by rw [HLS.out]; rfl) 1 (by omega))
                          clear hRq rpq HKN HG
                          go_upto_region 26 with fail
                          refine wp_region_rely (NewT) [SV.eq (.pointer (some ⟨g11, 33, none⟩)), SV.eq ((.slice (some ⟨gq, 0, none⟩) (List.length L) capq)), SV.eq (.pointer (some ⟨gq, 0, none⟩)), SV.eq (.pointer (some ⟨gq, 1, none⟩)), SV.eq (.pointer (some ⟨gq, (0 + 1), none⟩)), SV.eq ((.int .u8 (bN (sg i0 0)))), SV.eq ((.int .u8 (bN (sg i0 0 + 1)))), SV.eq (.pointer (some ⟨gq, 0, none⟩)), SV.eq (.pointer (some ⟨gq, 1, none⟩)), SV.eq (.pointer (some ⟨gq, (0 + 1), none⟩))] [([(11, none)], none), ([(107, some 0)], none), ([(108, some 1)], none), ([(109, some 2)], none), ([(110, some 3)], none), ([(111, some 4)], none), ([(112, some 5)], none), ([(108, some 1)], none), ([(114, some 7)], none), ([(115, some 8)], none)] 121 rfl (by kernel_rfl) rfl (by kernel_rfl) (by kernel_rfl) rfl NewT.trans (NewT.drew _) (Nat.le_of_ble_eq_true rfl) ⟨?_, ?_, ?_, ?_, ?_, ?_, ?_, ?_, ?_, ?_, trivial⟩ ?_
                          · exact fun a wx hT hF K hK => rely_wp rfl (opr_fldZ2 rfl hF.1 (hK _ _ (NewT.refl _) rfl))
                          · exact fun a wx hT hF K hK => rely_wp rfl (opr_ldGs (hT.row RP.out) (by decide) rfl rfl hF.1 (hK _ _ (NewT.refl _) rfl))
                          · exact fun a wx hT hF K hK => rely_wp rfl (opr_idxG0 HL0.out rfl hF.1 (hK _ _ (NewT.refl _) rfl))
                          · exact fun a wx hT hF K hK => rely_wp rfl (opr_fldX1 rfl hF.1 (hK _ _ (NewT.refl _) rfl))
                          · exact fun a wx hT hF K hK => rely_wp rfl (opr_idxH0 rfl hF.1 (hK _ _ (NewT.refl _) rfl))
                          · exact fun a wx hT hF K hK => rely_wp rfl (opr_ldU8 (hT.row RQ.out) HN1.out HF1.out rfl hF.1 (hK _ _ (NewT.refl _) rfl))
                          · exact fun a wx hT hF K hK => rely_wp rfl (opr_inc8 rfl hF.1 (hK _ _ (NewT.refl _) rfl))
                          · exact fun a wx hT hF K hK => rely_wp rfl (opr_idxG0 HL0.out rfl hF.1 (hK _ _ (NewT.refl _) rfl))
                          · exact fun a wx hT hF K hK => rely_wp rfl (opr_fldX1 rfl hF.1 (hK _ _ (NewT.refl _) rfl))
                          · exact fun a wx hT hF K hK => rely_wp rfl (opr_idxH0 rfl hF.1 (hK _ _ (NewT.refl _) rfl))
                          · intro wr_ kr
                            iterate 10 (intro u h; obtain rfl := Eq.symm (h (by simp)); clear h)
                            refine relyEnd_nil rfl ?_
                            simp only [Act.put, List.setIfInBounds_toArray, List.set_cons_zero, List.set_cons_succ]
                            refine opr_put1 (g := gq) (o0 := 0 + 1) (v := .int .u8 (bN (sg i0 0 + 1))) (F := fun q => if q = 1 then .int .u8 (bN (sg i0 0 + 1)) else Fq q) rfl rfl rfl (kr.row RQ.out) HN1.out info_u81 rfl (fun i _ => rfl) ?_
                            intro ws_ hRs rqs
                            go_simp
                            have hlen : L.length = ((((i0 : Int), incH (sg i0)) :: t0)).length := by rw [HLS.out]; rfl
                            have hg3 : RdS ws_ (.slice (some ⟨gq, 0, none⟩) ((((i0 : Int), incH (sg i0)) :: t0)).length capq) (((i0 : Int), incH (sg i0)) :: t0) := rdS_of rqs (by rw [← hlen]; exact HQ.out.2.2.2) (by rw [← hlen]; exact HQ.out.2.1) HQ.out.2.2.1 (inc_cells (fun i x hx => HFQ.out i x (by rw [HLS.out]; exact hx)))
                            rw [← hlen] at hg3
                            have HPT : Hid (PointV ws_ (.agg (rowA 34 (ptF size root (.slice (some ⟨gq, 0, none⟩) (List.length L) capq)))) size root (((i0 : Int), incH (sg i0)) :: t0)) := Lib.hid ⟨_, rfl, hg3⟩
                            replace RK := Lib.hid (hRs.row (by have := HGQ.out; omega) (kr.row RK.out))
                            replace RP := Lib.hid (hRs.row (by have := HGQ.out; omega) (kr.row RP.out))
                            replace HM := Lib.hid (NewT.rt (NewT.trans _ _ _ HM.out kr) hRs (by have := HGQ.out; omega))
                            clear hlen hg3 rqs hRs kr
                            go_upto_region 27 with fail
                            refine wp_region_steps0 NewT [SV.eq (.agg (rowA 3 (keyF pv wv need))), SV.eq (.agg (rowA 34 (ptF size root (.slice (some ⟨gq, 0, none⟩) (List.length L) capq)))), SV.eq (.int .i64 (8)), SV.eq (.bool true), SV.eq (.bool true)] [([(5, none)], none), ([(11, none)], none), ([(117, some 0), (118, some 1)], none), ([(119, some 2)], none), ([(120, some 3)], none)] 121 5 rfl rfl (by kernel_rfl) NewT.trans (NewT.refl _) (Nat.le_of_ble_eq_true rfl) ⟨?_, ?_, ?_, ?_, ?_, trivial⟩ ?_
                            · exact fun a wx hT hF K hK => rely_wp rfl (opr_ldY (hT.row RK.out) rfl hF.1 (hK _ _ (NewT.refl _) rfl))
                            · exact fun a wx hT hF K hK => rely_wp rfl (opr_ldZ (hT.row RP.out) rfl hF.1 (hK _ _ (NewT.refl _) rfl))
                            · exact fun a wx hT hF K hK => rely_wp rfl (opr_cv (HC3.out ▸ Check_cv hX _ _ ps ws need size root (((i0 : Int), incH (sg i0)) :: t0) wx ((NewT.trans _ _ _ HM.out hT).tables HT.out) ((NewT.trans _ _ _ HM.out hT).keysV HK.out) (hT.pointV HPT.out)) rfl Tryd.func22 (by kernel_rfl) (by kernel_rfl) (evs2 hF.1 hF.2.1) hK)
                            · exact fun a wx hT hF K hK => rely_wp rfl (opr_cmp (b := true) (.inl ⟨rfl, (by decide)⟩) Tryd.underlying42 rfl hF.1 rfl (hK _ _ (NewT.refl _) rfl))
                            · exact fun a wx hT hF K hK => rely_wp rfl (opr_move (.inr rfl) (hK _ _ (NewT.refl _) hF.1))
                            · intro wt kt
                              iterate 5 (intro u h; obtain rfl := Eq.symm (h (by simp)); clear h)
                              refine relyEnd_nil rfl ?_
                              refine wpList_end rfl ?_
                              simp only [Act.put, List.setIfInBounds_toArray, List.set_cons_zero, List.set_cons_succ]
                              go_simp
                              go_wp2
                              go_ret
                              exact ⟨rfl, (NewT.trans _ _ _ HM.out kt).out⟩
end Go.Proofs.YtcfogkimjbgjgaaDoor
