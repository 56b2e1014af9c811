/- The law MacLists, walked: two lists of parts are digested as two texts that differ, if they do, or their domains. -/
import Derived.Test.YtpoebajpmkcjdaaDoorMX
import Derived.Test.YtpoebajpmkcjdaaDoorMY
import Derived.Test.YtpoebajpmkcjdaaDoorMT
import Derived.Test.YtpoebajpmkcjdaaDoorE2
import Derived.Deep.DeepCutAuto
namespace Go.Proofs.YtpoebajpmkcjdaaDoor
open Go Go.RowKit
theorem bN_dec (d e : UInt8) : ((bN d == bN e) : Bool) = decide (d = e) := by
  by_cases h : d = e
  · subst h; simp
  · rw [decide_eq_false h]; simpa using fun h2 => h (bN_inj h2)
/-- What the law's variable same stands for behind k places. -/
def sameP (d e : UInt8) (a b : List (List UInt8)) (k : Nat) : Prop := d = e ∧ a.length = b.length ∧ ∀ i, i < k → a[i]? = b[i]?
theorem sameP_all {d e : UInt8} {a b : List (List UInt8)} {k : Nat} (hk : k = a.length ∨ k = b.length) : sameP d e a b k ↔ d = e ∧ a = b := by
  constructor
  · rintro ⟨h1, h2, h3⟩
    refine ⟨h1, List.ext_getElem? fun i => ?_⟩
    by_cases hi : i < k
    · exact h3 i hi
    · rw [List.getElem?_eq_none (by omega), List.getElem?_eq_none (by omega)]
  · rintro ⟨rfl, rfl⟩
    exact ⟨rfl, rfl, fun _ _ => rfl⟩
theorem mem_flat_len {a : List (List UInt8)} {l : List UInt8} (h : l ∈ a) : l.length ≤ a.flatten.length := by
  induction a with
  | nil => simp at h
  | cons x a ih =>
    rw [List.flatten_cons, List.length_append]
    rcases List.mem_cons.1 h with rfl | h
    · omega
    · have := ih h; omega
theorem parts_at {w : World} {A : Option Addr} {n c : Nat} {ls : List (List UInt8)} (h : Parts w (.slice A n c) ls) : ls.length = n ∧ n ≤ c ∧ c ≤ maxLen ∧ ∀ i, i < n → ∃ b o x u, A = some ⟨b, o, none⟩ ∧ ls[i]? = some x ∧ w.cell? ⟨b, o + i, none⟩ = some u ∧ RdV w [] u x := by
  obtain ⟨ps, ⟨A', c', hv, h1, h2, hA, hR⟩, rfl⟩ := h
  cases hv
  refine ⟨by simp, h1, h2, fun i hi => ?_⟩
  obtain ⟨b, o, hb, _, hc⟩ := hA (by omega)
  have hx : ps[i]? = some ps[i] := List.getElem?_eq_getElem hi
  exact ⟨b, o, ps[i].2, ps[i].1, hb, by rw [List.getElem?_map, hx]; rfl, hc i _ hx, hR _ (List.getElem_mem hi)⟩
set_option maxRecDepth 100000 in
set_option maxHeartbeats 2000000 in
theorem MacLists_walk0 (d e : UInt8) (va vb : Value) (xs ys : List (List UInt8)) (w : World) (hT : Tables w) (hpa : Parts w va xs) (hba : ∀ l ∈ xs, l.length ≤ 140737488351232) (hpb : Parts w vb ys) (hbb : ∀ l ∈ ys, l.length ≤ 140737488351232) :
    Calls Tryd.prog 12 #[.int .u8 (bN d), .int .u8 (bN e), va, vb] w fun e w' => e = .returned (.bool true) ∧ Below w.heap.size w w' := by
  have HT := Lib.hid hT
  have Ha := Lib.hid hpa
  have Hb := Lib.hid hpb
  have Hba := Lib.hid hba
  have Hbb := Lib.hid hbb
  obtain ⟨Aa, ca, rfl⟩ := parts_form hpa
  obtain ⟨Ab, cb, rfl⟩ := parts_form hpb
  generalize hna : xs.length = na
  generalize hnb : ys.length = nb
  rw [hna] at Ha
  rw [hnb] at Hb
  have Hna := Lib.hid hna
  have Hnb := Lib.hid hnb
  clear hT hpa hpb hba hbb hna hnb
  go_enter Tryd.func12, Tryd.ntmps12
  go_wp2_with fail
  refine (alive2_any w HT.out).mono ?_
  rintro e w1 ⟨rfl, hB1⟩
  have hB := NewT.of hB1
  replace HT := Lib.hid (hB.tables HT.out)
  replace Ha := Lib.hid (hB.partsL Ha.out)
  replace Hb := Lib.hid (hB.partsL Hb.out)
  clear hB1
  go_wp2_with fail
  refine (great_any _ _ w1 Ha.out Hba.out).mono ?_
  rintro _ w2 ⟨g1, rfl, hg1, rfl⟩
  cases g1 with
  | true =>
    go_wp2
    go_ret
    exact ⟨rfl, hB.out⟩
  | false =>
    have hga := hg1 rfl
    clear hg1
    go_wp2_with fail
    refine (great_any _ _ w1 Hb.out Hbb.out).mono ?_
    rintro _ w2 ⟨g2, rfl, hg2, rfl⟩
    cases g2 with
    | true =>
      go_wp2
      go_ret
      exact ⟨rfl, hB.out⟩
    | false =>
      have hgb := hg2 rfl
      have h1 := gsum_bounds xs
      have h2 := gsum_bounds ys
      have hna := Hna.out
      have hnb := Hnb.out
      have hla : na ≤ 1000 := by omega
      have hlb : nb ≤ 1000 := by omega
      have hfa : xs.flatten.length ≤ 1000 := by omega
      have hfb : ys.flatten.length ≤ 1000 := by omega
      have hea : ∀ l ∈ xs, l.length < 1000000 := fun l hl => by have := mem_flat_len hl; omega
      have heb : ∀ l ∈ ys, l.length < 1000000 := fun l hl => by have := mem_flat_len hl; omega
      have Hij := Lib.hid (of_inj d e xs ys hea heb)
      have Hma := Lib.hid (fun l (hl : l ∈ xs) => mem_flat_len hl)
      have Hmb := Lib.hid (fun l (hl : l ∈ ys) => mem_flat_len hl)
      have hol1 := ofL_length (bN d) xs
      have hol2 := ofL_length (bN e) ys
      have hx1 : (ofL (bN d) xs).length ≤ 6000 := by omega
      have hx2 : (ofL (bN e) ys).length ≤ 6000 := by omega
      clear hol1 hol2
      clear hg2 hga hgb h1 h2 Hba Hbb hna hnb hea heb
      have hw0 := bN_wrap d
      have hw1 := bN_wrap e
      obtain ⟨D1, HD1⟩ := hid_ex (shaL Kc Fc (ofL (bN d) xs))
      obtain ⟨D2, HD2⟩ := hid_ex (shaL Kc Fc (ofL (bN e) ys))
      go_upto_region 5 with fail
      refine wp_region_seq NewT [SV.eq (.int .u8 (bN d)), SV.eq (.int .i64 (bN d)), svParts xs, svRd (ofL (bN d) xs), SV.eq (.int .u8 (bN e)), SV.eq (.int .i64 (bN e)), svParts ys, svRd (ofL (bN e) ys), svRd (ofL (bN d) xs)] [([(0, none)], none), ([(21, some 0)], none), ([(2, none)], none), ([(22, some 1), (23, some 2)], none), ([(1, none)], none), ([(25, some 4)], none), ([(3, none)], none), ([(26, some 5), (27, some 6)], none), ([(24, some 3)], none)] 90 rfl rfl (by kernel_rfl) rfl NewT.trans (NewT.refl _) (Nat.le_of_ble_eq_true rfl) ⟨?_, ?_, ?_, ?_, ?_, ?_, ?_, ?_, ?_, trivial⟩ ?_
      · -- 0: Op.move t0
        intro a wx hT hF K hK
        obtain ⟨f0, _⟩ := hF
        have f0 : a.tmps.getD 0 undef = .int .u8 (bN d) := f0
        refine rely_wp rfl ?_
        exact opr_move (.inl rfl) (hK _ _ (NewT.refl _) f0)
      · -- 1: Op.convert 5 3 t21
        intro a wx hT hF K hK
        obtain ⟨f21, _⟩ := hF
        have f21 : a.tmps.getD 21 undef = .int .u8 (bN d) := f21
        refine rely_wp rfl ?_
        simp only [Array.getD_eq_getD_getElem?] at f21
        go_simp
        exact hK _ _ (NewT.refl _) rfl
      · -- 2: Op.move t2
        intro a wx hT hF K hK
        obtain ⟨f2, _⟩ := hF
        have f2 : a.tmps.getD 2 undef = .slice Aa na ca := f2
        refine rely_wp rfl ?_
        exact opr_move (.inl rfl) (hK _ _ (NewT.refl _) (by rw [eval_tmp, f2]; exact hT.partsL Ha.out))
      · -- 3: Op.call ( value (Operand.func 34), args := #[t22, t23], argT
        intro a wx hT hF K hK
        obtain ⟨f22, f23, _⟩ := hF
        have f22 : a.tmps.getD 22 undef = .int .i64 (bN d) := f22
        replace f23 := show (svParts xs).pred (a.tmps.getD 23 undef) wx from f23
        refine rely_wp rfl ?_
        exact opr_cv (RText_cv (bN d) _ xs wx f23 (by rw [Hna.out]; exact hla) hfa) rfl Tryd.func34 (by kernel_rfl) (by kernel_rfl) (by simp only [List.map_toArray, List.map_cons, List.map_nil, eval_tmp, f22]) hK
      · -- 4: Op.move t1
        intro a wx hT hF K hK
        obtain ⟨f1, _⟩ := hF
        have f1 : a.tmps.getD 1 undef = .int .u8 (bN e) := f1
        refine rely_wp rfl ?_
        exact opr_move (.inl rfl) (hK _ _ (NewT.refl _) f1)
      · -- 5: Op.convert 5 3 t25
        intro a wx hT hF K hK
        obtain ⟨f25, _⟩ := hF
        have f25 : a.tmps.getD 25 undef = .int .u8 (bN e) := f25
        refine rely_wp rfl ?_
        simp only [Array.getD_eq_getD_getElem?] at f25
        go_simp
        exact hK _ _ (NewT.refl _) rfl
      · -- 6: Op.move t3
        intro a wx hT hF K hK
        obtain ⟨f3, _⟩ := hF
        have f3 : a.tmps.getD 3 undef = .slice Ab nb cb := f3
        refine rely_wp rfl ?_
        exact opr_move (.inl rfl) (hK _ _ (NewT.refl _) (by rw [eval_tmp, f3]; exact hT.partsL Hb.out))
      · -- 7: Op.call ( value (Operand.func 34), args := #[t26, t27], argT
        intro a wx hT hF K hK
        obtain ⟨f26, f27, _⟩ := hF
        have f26 : a.tmps.getD 26 undef = .int .i64 (bN e) := f26
        replace f27 := show (svParts ys).pred (a.tmps.getD 27 undef) wx from f27
        refine rely_wp rfl ?_
        exact opr_cv (RText_cv (bN e) _ ys wx f27 (by rw [Hnb.out]; exact hlb) hfb) rfl Tryd.func34 (by kernel_rfl) (by kernel_rfl) (by simp only [List.map_toArray, List.map_cons, List.map_nil, eval_tmp, f26]) hK
      · -- 8: Op.assign t24
        intro a wx hT hF K hK
        obtain ⟨f24, _⟩ := hF
        replace f24 := show (svRd (ofL (bN d) xs)).pred (a.tmps.getD 24 undef) wx from f24
        refine rely_wp rfl ?_
        exact opr_move (.inr rfl) (hK _ _ (NewT.refl _) f24)
      · intro wx hT
        intro u h; obtain rfl := h (by simp); clear h
        intro u h; obtain rfl := h (by simp); clear h
        intro u23 h; have g23 := h (by simp); clear h; replace g23 := show (svParts xs).pred u23 wx from g23
        intro u24 h; have g24 := h (by simp); clear h; replace g24 := show (svRd (ofL (bN d) xs)).pred u24 wx from g24
        intro u h; obtain rfl := h (by simp); clear h
        intro u h; obtain rfl := h (by simp); clear h
        intro u27 h; have g27 := h (by simp); clear h; replace g27 := show (svParts ys).pred u27 wx from g27
        intro u28 h; have g28 := h (by simp); clear h; replace g28 := show (svRd (ofL (bN e) ys)).pred u28 wx from g28
        intro u9 h; have g9 := h (by simp); clear h; replace g9 := show (svRd (ofL (bN d) xs)).pred u9 wx from g9
        refine relyEnd_nil rfl ?_
        simp only [Act.put, List.setIfInBounds_toArray, List.set_cons_zero, List.set_cons_succ]
        refine opr_move (.inr rfl) ?_
        go_simp
        replace HT := Lib.hid (hT.tables HT.out)
        replace Ha := Lib.hid (hT.partsL Ha.out)
        replace Hb := Lib.hid (hT.partsL Hb.out)
        replace hB := NewT.trans _ _ _ hB hT
        have Hx := Lib.hid (show RdV wx [] u9 (ofL (bN d) xs) from g9)
        have Hy := Lib.hid (show RdV wx [] u28 (ofL (bN e) ys) from g28)
        clear hT g23 g24 g27 g28 g9 hw0 hw1
        generalize u28 = vy at Hy ⊢
        go_upto_region 6 with fail
        go_cut [11] (fun v wc => v = .bool (decide (d = e ∧ na = nb)) ∧ wx = wc)
        case first =>
          by_cases hde : d = e
          · have hq : (bN d == bN e) = true := by rw [hde]; simp
            by_cases hab : na = nb
            · have hq2 : ((na : Int) == (nb : Int)) = true := by rw [hab]; simp
              have hq3 : (na == nb) = true := by rw [hab]; simp
              have Hde := Lib.hid hde
              have Hab := Lib.hid hab
              clear hde hab
              go_wp2
              go_meet
              case rel => exact ⟨congrArg Value.bool (decide_eq_true ⟨Hde.out, Hab.out⟩).symm, rfl⟩
            · have hq2 : ((na : Int) == (nb : Int)) = false := by simp; omega
              have hq3 : (na == nb) = false := by simpa using hab
              have Hab := Lib.hid hab
              clear hde hab
              go_wp2
              go_meet
              case rel => exact ⟨congrArg Value.bool (decide_eq_false fun h => Hab.out h.2).symm, rfl⟩
          · have hq : (bN d == bN e) = false := by simpa using fun h2 => hde (bN_inj h2)
            have Hde := Lib.hid hde
            clear hde
            go_wp2
            go_meet
            case rel => exact ⟨congrArg Value.bool (decide_eq_false fun h => Hde.out h.1).symm, rfl⟩
        case rest =>
          obtain ⟨rfl, rfl⟩ := hcut
          go_wp2
          go_loopw [11, 12] (fun v i wr => ∃ (k : Nat) (s : Bool), k ≤ na ∧ k ≤ nb ∧ i = .int .i64 k ∧ v = .bool s ∧ Hid (s = true ↔ sameP d e xs ys k) ∧ NewT wx wr) (fun _ i _ => na - (intOf i).toNat)
          case atStart => exact ⟨0, decide (d = e ∧ na = nb), by omega, by omega, rfl, rfl, Lib.hid (by rw [decide_eq_true_iff]; exact ⟨fun h => ⟨h.1, by rw [Hna.out, Hnb.out]; exact h.2, fun i hi => by omega⟩, fun h => ⟨h.1, by rw [← Hna.out, ← Hnb.out]; exact h.2.1⟩⟩), NewT.refl _⟩
          case round =>
            obtain ⟨k, s, hk1, hk2, rfl, rfl, Hs, qN⟩ := hrel
            by_cases hlt : k < na ∧ k < nb
            · obtain ⟨hlt1, hlt2⟩ := hlt
              obtain ⟨_, hca, hma, hata⟩ := parts_at (qN.partsL Ha.out)
              obtain ⟨_, hcb, hmb, hatb⟩ := parts_at (qN.partsL Hb.out)
              obtain ⟨b1, o1, x, ux, rfl, hx, cx, rx⟩ := hata k hlt1
              obtain ⟨b2, o2, y, uy, rfl, hy, cy, ry⟩ := hatb k hlt2
              unfold maxLen at hma hmb
              have hlx := Hma.out x (List.mem_of_getElem? hx)
              have hly := Hmb.out y (List.mem_of_getElem? hy)
              have Hx2 := Lib.hid hx
              have Hy2 := Lib.hid hy
              have Rx := Lib.hid rx
              have Ry := Lib.hid ry
              have Cx := Lib.hid cx
              have Cy := Lib.hid cy
              have bx := World.block_lt_of_cell? _ _ cx
              have by2 := World.block_lt_of_cell? _ _ cy
              have hki1 : (k : Int) < (na : Int) := by omega
              have hki2 : (k : Int) < (nb : Int) := by omega
              clear hata hatb hx hy rx ry cx cy
              cases s with
              | true =>
                have hsp := Hs.out.1 rfl
                have Hnx : Hid (decide (x = y) = true ↔ sameP d e xs ys (k + 1)) := Lib.hid (by
                  rw [decide_eq_true_iff]
                  constructor
                  · rintro rfl
                    refine ⟨hsp.1, hsp.2.1, fun i hi => ?_⟩
                    rcases Nat.lt_succ_iff_lt_or_eq.1 hi with h | rfl
                    · exact hsp.2.2 i h
                    · rw [Hx2.out, Hy2.out]
                  · intro h
                    have := h.2.2 k (by omega)
                    rw [Hx2.out, Hy2.out] at this
                    exact Option.some.inj this)
                clear hsp Hs
                go_upto_region 10 with fail
                refine wp_region_rely NewT [SV.eq (.bool true), SV.eq (.bool true), SV.eq (.slice (some ⟨b1, o1, none⟩) na ca), SV.eq (.int .i64 (k : Int)), SV.eq (.pointer (some ⟨b1, o1 + k, none⟩)), svRd x, SV.eq (.slice (some ⟨b2, o2, none⟩) nb cb), SV.eq (.int .i64 (k : Int)), SV.eq (.pointer (some ⟨b2, o2 + k, none⟩)), svRd y, SV.eq (.bool (decide (x = y))), SV.eq (.bool (decide (x = y)))] [([(11, none)], none), ([(51, some 0)], none), ([(2, none), (52, some 1)], some (52, true)), ([(12, none), (52, some 1)], some (52, true)), ([(53, some 2), (54, some 3), (52, some 1)], some (52, true)), ([(55, some 4), (52, some 1)], some (52, true)), ([(3, none), (52, some 1)], some (52, true)), ([(12, none), (52, some 1)], some (52, true)), ([(57, some 6), (58, some 7), (52, some 1)], some (52, true)), ([(59, some 8), (52, some 1)], some (52, true)), ([(56, some 5), (60, some 9), (52, some 1)], some (52, true)), ([(52, some 1), (61, some 10)], none)] 90 rfl (by kernel_rfl) rfl (by kernel_rfl) (by kernel_rfl) rfl NewT.trans (NewT.drew _) (Nat.le_of_ble_eq_true rfl) ⟨?_, ?_, ?_, ?_, ?_, ?_, ?_, ?_, ?_, ?_, ?_, ?_, trivial⟩ ?_
                · -- 0: Op.move t11
                  intro a wx hT hF K hK
                  obtain ⟨f11, _⟩ := hF
                  have f11 : a.tmps.getD 11 undef = .bool true := f11
                  refine rely_wp rfl ?_
                  exact opr_move (.inl rfl) (hK _ _ (NewT.refl _) f11)
                · -- 1: Op.move t51
                  intro a wx hT hF K hK
                  obtain ⟨f51, _⟩ := hF
                  have f51 : a.tmps.getD 51 undef = .bool true := f51
                  refine rely_wp rfl ?_
                  exact opr_move (.inl rfl) (hK _ _ (NewT.refl _) f51)
                · -- 2: Op.move t2
                  intro a wx hT hF K hK
                  obtain ⟨f2, f52, _⟩ := hF
                  have f2 : a.tmps.getD 2 undef = .slice (some ⟨b1, o1, none⟩) na ca := f2
                  have f52 : a.tmps.getD 52 undef = .bool true := f52
                  refine rely_wp (rely_guard f52) ?_
                  exact opr_move (.inl rfl) (hK _ _ (NewT.refl _) f2)
                · -- 3: Op.move t12
                  intro a wx hT hF K hK
                  obtain ⟨f12, f52, _⟩ := hF
                  have f12 : a.tmps.getD 12 undef = .int .i64 (k : Int) := f12
                  have f52 : a.tmps.getD 52 undef = .bool true := f52
                  refine rely_wp (rely_guard f52) ?_
                  exact opr_move (.inl rfl) (hK _ _ (NewT.refl _) f12)
                · -- 4: Op.indexAddr 41 t53 t54
                  intro a wx hT hF K hK
                  obtain ⟨f53, f54, f52, _⟩ := hF
                  have f53 : a.tmps.getD 53 undef = .slice (some ⟨b1, o1, none⟩) na ca := f53
                  have f54 : a.tmps.getD 54 undef = .int .i64 (k : Int) := f54
                  have f52 : a.tmps.getD 52 undef = .bool true := f52
                  refine rely_wp (rely_guard f52) ?_
                  simp only [Array.getD_eq_getD_getElem?] at f53
                  simp only [Array.getD_eq_getD_getElem?] at f54
                  simp only [Array.getD_eq_getD_getElem?] at f52
                  go_simp
                  exact hK _ _ (NewT.refl _) rfl
                · -- 5: Op.load 24 t55
                  intro a wx hT hF K hK
                  obtain ⟨f55, f52, _⟩ := hF
                  have f55 : a.tmps.getD 55 undef = .pointer (some ⟨b1, o1 + k, none⟩) := f55
                  have f52 : a.tmps.getD 52 undef = .bool true := f52
                  refine rely_wp (rely_guard f52) ?_
                  simp only [Array.getD_eq_getD_getElem?] at f55
                  simp only [Array.getD_eq_getD_getElem?] at f52
                  have c := (hT.out.cell (p := ⟨b1, o1 + k, none⟩) bx).trans Cx.out
                  go_simp
                  exact hK _ _ (NewT.refl _) (hT.rd Rx.out)
                · -- 6: Op.move t3
                  intro a wx hT hF K hK
                  obtain ⟨f3, f52, _⟩ := hF
                  have f3 : a.tmps.getD 3 undef = .slice (some ⟨b2, o2, none⟩) nb cb := f3
                  have f52 : a.tmps.getD 52 undef = .bool true := f52
                  refine rely_wp (rely_guard f52) ?_
                  exact opr_move (.inl rfl) (hK _ _ (NewT.refl _) f3)
                · -- 7: Op.move t12
                  intro a wx hT hF K hK
                  obtain ⟨f12, f52, _⟩ := hF
                  have f12 : a.tmps.getD 12 undef = .int .i64 (k : Int) := f12
                  have f52 : a.tmps.getD 52 undef = .bool true := f52
                  refine rely_wp (rely_guard f52) ?_
                  exact opr_move (.inl rfl) (hK _ _ (NewT.refl _) f12)
                · -- 8: Op.indexAddr 41 t57 t58
                  intro a wx hT hF K hK
                  obtain ⟨f57, f58, f52, _⟩ := hF
                  have f57 : a.tmps.getD 57 undef = .slice (some ⟨b2, o2, none⟩) nb cb := f57
                  have f58 : a.tmps.getD 58 undef = .int .i64 (k : Int) := f58
                  have f52 : a.tmps.getD 52 undef = .bool true := f52
                  refine rely_wp (rely_guard f52) ?_
                  simp only [Array.getD_eq_getD_getElem?] at f57
                  simp only [Array.getD_eq_getD_getElem?] at f58
                  simp only [Array.getD_eq_getD_getElem?] at f52
                  go_simp
                  exact hK _ _ (NewT.refl _) rfl
                · -- 9: Op.load 24 t59
                  intro a wx hT hF K hK
                  obtain ⟨f59, f52, _⟩ := hF
                  have f59 : a.tmps.getD 59 undef = .pointer (some ⟨b2, o2 + k, none⟩) := f59
                  have f52 : a.tmps.getD 52 undef = .bool true := f52
                  refine rely_wp (rely_guard f52) ?_
                  simp only [Array.getD_eq_getD_getElem?] at f59
                  simp only [Array.getD_eq_getD_getElem?] at f52
                  have c := (hT.out.cell (p := ⟨b2, o2 + k, none⟩) by2).trans Cy.out
                  go_simp
                  exact hK _ _ (NewT.refl _) (hT.rd Ry.out)
                · -- 10: Op.call ( value (Operand.func 18), args := #[t56, t60], argT
                  intro a wx hT hF K hK
                  obtain ⟨f56, f60, f52, _⟩ := hF
                  replace f56 := show (svRd x).pred (a.tmps.getD 56 undef) wx from f56
                  replace f60 := show (svRd y).pred (a.tmps.getD 60 undef) wx from f60
                  have f52 : a.tmps.getD 52 undef = .bool true := f52
                  refine rely_wp (rely_guard f52) ?_
                  exact opr_cv (Bytes_cv _ _ x y wx f56 f60 (by omega) (by omega)) rfl Tryd.func18 (by kernel_rfl) (by kernel_rfl) (by simp only [List.map_toArray, List.map_cons, List.map_nil, eval_tmp]) hK
                · -- 11: Op.pick t52 t61 (const (Value.bool false))
                  intro a wx hT hF K hK
                  obtain ⟨f52, f61, _⟩ := hF
                  have f52 : a.tmps.getD 52 undef = .bool true := f52
                  have f61 : a.tmps.getD 61 undef = .bool (decide (x = y)) := f61
                  refine rely_wp rfl ?_
                  exact opr_pick_true rfl f52 (hK _ _ (NewT.refl _) f61)
                · intro wx hT
                  intro u h; obtain rfl := h (by simp); clear h
                  intro u h; obtain rfl := h (by simp); clear h
                  intro u h; obtain rfl := h (by simp); clear h
                  intro u h; obtain rfl := h (by simp); clear h
                  intro u h; obtain rfl := h (by simp); clear h
                  intro u56 h; have g56 := h (by simp); clear h; replace g56 := show (svRd x).pred u56 wx from g56
                  intro u h; obtain rfl := h (by simp); clear h
                  intro u h; obtain rfl := h (by simp); clear h
                  intro u h; obtain rfl := h (by simp); clear h
                  intro u60 h; have g60 := h (by simp); clear h; replace g60 := show (svRd y).pred u60 wx from g60
                  intro u h; obtain rfl := h (by simp); clear h
                  intro u h; obtain rfl := h (by simp); clear h
                  refine relyEnd_nil rfl ?_
                  simp only [Act.put, List.setIfInBounds_toArray, List.set_cons_zero, List.set_cons_succ]
                  refine opr_move (.inr rfl) ?_
                  go_simp
                  go_wp2
                  go_roundw
                  case rel => exact ⟨k + 1, decide (x = y), by omega, by omega, by go_num, rfl, Hnx, NewT.trans _ _ _ qN hT⟩
                  case measure => simp [intOf]; omega
              | false =>
                have Hnx : Hid ((false : Bool) = true ↔ sameP d e xs ys (k + 1)) := Lib.hid ⟨fun h => (by cases h), fun h => absurd (Hs.out.2 ⟨h.1, h.2.1, fun i hi => h.2.2 i (by omega)⟩) (by simp)⟩
                clear Hs
                go_upto_region 10 with fail
                refine wp_region_rely NewT [SV.eq (.bool false), SV.eq (.bool false), SV.eq undef, SV.eq undef, SV.eq undef, SV.eq undef, SV.eq undef, SV.eq undef, SV.eq undef, SV.eq undef, SV.eq undef, SV.eq (.bool false)] [([(11, none)], none), ([(51, some 0)], none), ([(2, none), (52, some 1)], some (52, true)), ([(12, none), (52, some 1)], some (52, true)), ([(53, some 2), (54, some 3), (52, some 1)], some (52, true)), ([(55, some 4), (52, some 1)], some (52, true)), ([(3, none), (52, some 1)], some (52, true)), ([(12, none), (52, some 1)], some (52, true)), ([(57, some 6), (58, some 7), (52, some 1)], some (52, true)), ([(59, some 8), (52, some 1)], some (52, true)), ([(56, some 5), (60, some 9), (52, some 1)], some (52, true)), ([(52, some 1), (61, some 10)], none)] 90 rfl (by kernel_rfl) rfl (by kernel_rfl) (by kernel_rfl) rfl NewT.trans (NewT.drew _) (Nat.le_of_ble_eq_true rfl) ⟨?_, ?_, ?_, ?_, ?_, ?_, ?_, ?_, ?_, ?_, ?_, ?_, trivial⟩ ?_
                · -- 0: Op.move t11
                  intro a wx hT hF K hK
                  obtain ⟨f11, _⟩ := hF
                  have f11 : a.tmps.getD 11 undef = .bool false := f11
                  refine rely_wp rfl ?_
                  exact opr_move (.inl rfl) (hK _ _ (NewT.refl _) f11)
                · -- 1: Op.move t51
                  intro a wx hT hF K hK
                  obtain ⟨f51, _⟩ := hF
                  have f51 : a.tmps.getD 51 undef = .bool false := f51
                  refine rely_wp rfl ?_
                  exact opr_move (.inl rfl) (hK _ _ (NewT.refl _) f51)
                · -- 2: Op.move t2
                  intro a wx hT hF K hK
                  obtain ⟨f2, f52, _⟩ := hF
                  have f2 : a.tmps.getD 2 undef = .slice (some ⟨b1, o1, none⟩) na ca := f2
                  have f52 : a.tmps.getD 52 undef = .bool false := f52
                  exact rely_skip (rely_guard_no f52 (by decide)) (hK _ _ (NewT.refl _) rfl)
                · -- 3: Op.move t12
                  intro a wx hT hF K hK
                  obtain ⟨f12, f52, _⟩ := hF
                  have f12 : a.tmps.getD 12 undef = .int .i64 (k : Int) := f12
                  have f52 : a.tmps.getD 52 undef = .bool false := f52
                  exact rely_skip (rely_guard_no f52 (by decide)) (hK _ _ (NewT.refl _) rfl)
                · -- 4: Op.indexAddr 41 t53 t54
                  intro a wx hT hF K hK
                  obtain ⟨f53, f54, f52, _⟩ := hF
                  have f53 : a.tmps.getD 53 undef = undef := f53
                  have f54 : a.tmps.getD 54 undef = undef := f54
                  have f52 : a.tmps.getD 52 undef = .bool false := f52
                  exact rely_skip (rely_guard_no f52 (by decide)) (hK _ _ (NewT.refl _) rfl)
                · -- 5: Op.load 24 t55
                  intro a wx hT hF K hK
                  obtain ⟨f55, f52, _⟩ := hF
                  have f55 : a.tmps.getD 55 undef = undef := f55
                  have f52 : a.tmps.getD 52 undef = .bool false := f52
                  exact rely_skip (rely_guard_no f52 (by decide)) (hK _ _ (NewT.refl _) rfl)
                · -- 6: Op.move t3
                  intro a wx hT hF K hK
                  obtain ⟨f3, f52, _⟩ := hF
                  have f3 : a.tmps.getD 3 undef = .slice (some ⟨b2, o2, none⟩) nb cb := f3
                  have f52 : a.tmps.getD 52 undef = .bool false := f52
                  exact rely_skip (rely_guard_no f52 (by decide)) (hK _ _ (NewT.refl _) rfl)
                · -- 7: Op.move t12
                  intro a wx hT hF K hK
                  obtain ⟨f12, f52, _⟩ := hF
                  have f12 : a.tmps.getD 12 undef = .int .i64 (k : Int) := f12
                  have f52 : a.tmps.getD 52 undef = .bool false := f52
                  exact rely_skip (rely_guard_no f52 (by decide)) (hK _ _ (NewT.refl _) rfl)
                · -- 8: Op.indexAddr 41 t57 t58
                  intro a wx hT hF K hK
                  obtain ⟨f57, f58, f52, _⟩ := hF
                  have f57 : a.tmps.getD 57 undef = undef := f57
                  have f58 : a.tmps.getD 58 undef = undef := f58
                  have f52 : a.tmps.getD 52 undef = .bool false := f52
                  exact rely_skip (rely_guard_no f52 (by decide)) (hK _ _ (NewT.refl _) rfl)
                · -- 9: Op.load 24 t59
                  intro a wx hT hF K hK
                  obtain ⟨f59, f52, _⟩ := hF
                  have f59 : a.tmps.getD 59 undef = undef := f59
                  have f52 : a.tmps.getD 52 undef = .bool false := f52
                  exact rely_skip (rely_guard_no f52 (by decide)) (hK _ _ (NewT.refl _) rfl)
                · -- 10: Op.call ( value (Operand.func 18), args := #[t56, t60], argT
                  intro a wx hT hF K hK
                  obtain ⟨f56, f60, f52, _⟩ := hF
                  have f56 : a.tmps.getD 56 undef = undef := f56
                  have f60 : a.tmps.getD 60 undef = undef := f60
                  have f52 : a.tmps.getD 52 undef = .bool false := f52
                  exact rely_skip (rely_guard_no f52 (by decide)) (hK _ _ (NewT.refl _) rfl)
                · -- 11: Op.pick t52 t61 (const (Value.bool false))
                  intro a wx hT hF K hK
                  obtain ⟨f52, f61, _⟩ := hF
                  have f52 : a.tmps.getD 52 undef = .bool false := f52
                  have f61 : a.tmps.getD 61 undef = undef := f61
                  refine rely_wp rfl ?_
                  exact opr_pick_false rfl f52 (hK _ _ (NewT.refl _) rfl)
                · intro wx hT
                  intro u h; obtain rfl := h (by simp); clear h
                  intro u h; obtain rfl := h (by simp); clear h
                  intro u h; obtain rfl := h (by simp); clear h
                  intro u h; obtain rfl := h (by simp); clear h
                  intro u h; obtain rfl := h (by simp); clear h
                  intro u h; obtain rfl := h (by simp); clear h
                  intro u h; obtain rfl := h (by simp); clear h
                  intro u h; obtain rfl := h (by simp); clear h
                  intro u h; obtain rfl := h (by simp); clear h
                  intro u h; obtain rfl := h (by simp); clear h
                  intro u h; obtain rfl := h (by simp); clear h
                  intro u h; obtain rfl := h (by simp); clear h
                  refine relyEnd_nil rfl ?_
                  simp only [Act.put, List.setIfInBounds_toArray, List.set_cons_zero, List.set_cons_succ]
                  refine opr_move (.inr rfl) ?_
                  go_simp
                  go_wp2
                  go_roundw
                  case rel => exact ⟨k + 1, false, by omega, by omega, by go_num, rfl, Hnx, NewT.trans _ _ _ qN hT⟩
                  case measure => simp [intOf]; omega
            · have hend : k = na ∨ k = nb := by omega
              have HsB : Hid (decide (ofL (bN d) xs = ofL (bN e) ys) = s) := Lib.hid (by
                have h1 := sameP_all (d := d) (e := e) (a := xs) (b := ys) (k := k) (by rw [Hna.out, Hnb.out]; exact hend)
                rw [Bool.eq_iff_iff, decide_eq_true_iff, Hij.out, Hs.out, h1])
              replace HT := Lib.hid (qN.tables HT.out)
              replace Ha := Lib.hid (qN.partsL Ha.out)
              replace Hb := Lib.hid (qN.partsL Hb.out)
              replace Hx := Lib.hid (qN.rd Hx.out)
              replace Hy := Lib.hid (qN.rd Hy.out)
              replace hB := NewT.trans _ _ _ hB qN
              clear qN Hs Hma Hmb Hij
              have hw0 := bN_wrap d
              have hw1 := bN_wrap e
              by_cases hlt1 : k < na
              all_goals
                go_upto_region 11 with fail
                refine wp_region_seq NewT [SV.eq (.bool s), svRd (ofL (bN d) xs), svRd (ofL (bN e) ys), SV.eq (.bool s)] [([(11, none)], none), ([(9, none)], none), ([(10, none)], none), ([(64, some 1), (65, some 2)], none)] 90 rfl rfl (by kernel_rfl) rfl NewT.trans (NewT.refl _) (Nat.le_of_ble_eq_true rfl) ⟨?_, ?_, ?_, ?_, trivial⟩ ?_
                · -- 0: Op.move t11
                  intro a wx hT hF K hK
                  obtain ⟨f11, _⟩ := hF
                  have f11 : a.tmps.getD 11 undef = .bool s := f11
                  refine rely_wp rfl ?_
                  exact opr_move (.inl rfl) (hK _ _ (NewT.refl _) f11)
                · -- 1: Op.move t9
                  intro a wx hT hF K hK
                  obtain ⟨f9, _⟩ := hF
                  have f9 : a.tmps.getD 9 undef = u9 := f9
                  refine rely_wp rfl ?_
                  exact opr_move (.inl rfl) (hK _ _ (NewT.refl _) (by rw [eval_tmp, f9]; exact hT.rd Hx.out))
                · -- 2: Op.move t10
                  intro a wx hT hF K hK
                  obtain ⟨f10, _⟩ := hF
                  have f10 : a.tmps.getD 10 undef = vy := f10
                  refine rely_wp rfl ?_
                  exact opr_move (.inl rfl) (hK _ _ (NewT.refl _) (by rw [eval_tmp, f10]; exact hT.rd Hy.out))
                · -- 3: Op.call ( value (Operand.func 18), args := #[t64, t65], argT
                  intro a wx hT hF K hK
                  obtain ⟨f64, f65, _⟩ := hF
                  replace f64 := show (svRd (ofL (bN d) xs)).pred (a.tmps.getD 64 undef) wx from f64
                  replace f65 := show (svRd (ofL (bN e) ys)).pred (a.tmps.getD 65 undef) wx from f65
                  refine rely_wp rfl ?_
                  exact opr_cv (HsB.out ▸ Bytes_cv _ _ (ofL (bN d) xs) (ofL (bN e) ys) wx f64 f65 (by omega) (by omega)) rfl Tryd.func18 (by kernel_rfl) (by kernel_rfl) (by simp only [List.map_toArray, List.map_cons, List.map_nil, eval_tmp]) hK
                · intro wx hT
                  intro u h; obtain rfl := h (by simp); clear h
                  intro u64 h; have g64 := h (by simp); clear h; replace g64 := show (svRd (ofL (bN d) xs)).pred u64 wx from g64
                  intro u65 h; have g65 := h (by simp); clear h; replace g65 := show (svRd (ofL (bN e) ys)).pred u65 wx from g65
                  intro u h; obtain rfl := h (by simp); clear h
                  refine relyEnd_nil rfl ?_
                  simp only [Act.put, List.setIfInBounds_toArray, List.set_cons_zero, List.set_cons_succ]
                  go_simp
                  replace HT := Lib.hid (hT.tables HT.out)
                  replace Ha := Lib.hid (hT.partsL Ha.out)
                  replace Hb := Lib.hid (hT.partsL Hb.out)
                  replace Hx := Lib.hid (hT.rd Hx.out)
                  replace hB := NewT.trans _ _ _ hB hT
                  clear hT g64 g65 Hy
                  cases s with
                  | true =>
                    have HD12 : Hid (eqH D1 D2 = true) := Lib.hid (by
                      have h := of_decide_eq_true HsB.out
                      rw [← HD1.out, ← HD2.out, h]; exact eqH_same _)
                    go_upto_region 13 with fail
                    refine wp_region_seq NewT [SV.eq (.int .u8 (bN d)), SV.eq (.int .i64 (bN d)), svParts xs, SV.eq (.agg (rowA 32 (bF D1))), svRd (ofL (bN d) xs), SV.eq (.agg (rowA 32 (bF D1))), SV.eq (.bool true), SV.eq (.bool true), SV.eq (.bool true), SV.eq (.bool false), SV.eq (.bool false), SV.eq (.int .u8 (bN d)), SV.eq (.int .i64 (bN d)), svParts xs, SV.eq (.agg (rowA 32 (bF D1))), SV.eq (.int .u8 (bN e)), SV.eq (.int .i64 (bN e)), svParts ys, SV.eq (.agg (rowA 32 (bF D2))), SV.eq (.bool true), SV.eq (.bool true), SV.eq (.bool true)] [([(0, none)], none), ([(68, some 0)], none), ([(2, none)], none), ([(69, some 1), (70, some 2)], none), ([(9, none)], none), ([(72, some 4)], none), ([(71, some 3), (73, some 5)], none), ([(74, some 6)], none), ([(11, none), (75, some 7)], some (75, true)), ([(76, some 8), (75, some 7)], some (75, true)), ([(77, some 9), (75, some 7)], some (75, true)), ([(0, none), (78, some 10)], some (78, false)), ([(79, some 11), (78, some 10)], some (78, false)), ([(2, none), (78, some 10)], some (78, false)), ([(80, some 12), (81, some 13), (78, some 10)], some (78, false)), ([(1, none), (78, some 10)], some (78, false)), ([(83, some 15), (78, some 10)], some (78, false)), ([(3, none), (78, some 10)], some (78, false)), ([(84, some 16), (85, some 17), (78, some 10)], some (78, false)), ([(82, some 14), (86, some 18), (78, some 10)], some (78, false)), ([(78, some 10), (87, some 19), (75, some 7)], some (75, true)), ([(75, some 7), (88, some 20)], none)] 90 rfl rfl (by kernel_rfl) rfl NewT.trans (NewT.refl _) (Nat.le_of_ble_eq_true rfl) ⟨?_, ?_, ?_, ?_, ?_, ?_, ?_, ?_, ?_, ?_, ?_, ?_, ?_, ?_, ?_, ?_, ?_, ?_, ?_, ?_, ?_, ?_, trivial⟩ ?_
                    · -- 0: Op.move t0
                      intro a wx hT hF K hK
                      obtain ⟨f0, _⟩ := hF
                      have f0 : a.tmps.getD 0 undef = .int .u8 (bN d) := f0
                      refine rely_wp rfl ?_
                      exact opr_move (.inl rfl) (hK _ _ (NewT.refl _) f0)
                    · -- 1: Op.convert 5 3 t68
                      intro a wx hT hF K hK
                      obtain ⟨f68, _⟩ := hF
                      have f68 : a.tmps.getD 68 undef = .int .u8 (bN d) := f68
                      refine rely_wp rfl ?_
                      simp only [Array.getD_eq_getD_getElem?] at f68
                      go_simp
                      exact hK _ _ (NewT.refl _) rfl
                    · -- 2: Op.move t2
                      intro a wx hT hF K hK
                      obtain ⟨f2, _⟩ := hF
                      have f2 : a.tmps.getD 2 undef = .slice Aa na ca := f2
                      refine rely_wp rfl ?_
                      exact opr_move (.inl rfl) (hK _ _ (NewT.refl _) (by rw [eval_tmp, f2]; exact hT.partsL Ha.out))
                    · -- 3: Op.call ( value (Operand.func 30), args := #[t69, t70], argT
                      intro a wx hT hF K hK
                      obtain ⟨f69, f70, _⟩ := hF
                      have f69 : a.tmps.getD 69 undef = .int .i64 (bN d) := f69
                      replace f70 := show (svParts xs).pred (a.tmps.getD 70 undef) wx from f70
                      refine rely_wp rfl ?_
                      exact opr_cv (Of_cv (bN d) _ xs D1 wx (hT.tables HT.out) f70 (by rw [Hna.out]; omega) (by omega) HD1.out) rfl Tryd.func30 (by kernel_rfl) (by kernel_rfl) (by simp only [List.map_toArray, List.map_cons, List.map_nil, eval_tmp, f69]) hK
                    · -- 4: Op.move t9
                      intro a wx hT hF K hK
                      obtain ⟨f9, _⟩ := hF
                      have f9 : a.tmps.getD 9 undef = u9 := f9
                      refine rely_wp rfl ?_
                      exact opr_move (.inl rfl) (hK _ _ (NewT.refl _) (by rw [eval_tmp, f9]; exact hT.rd Hx.out))
                    · -- 5: Op.call ( value (Operand.func 22), args := #[t72], argTypes 
                      intro a wx hT hF K hK
                      obtain ⟨f72, _⟩ := hF
                      replace f72 := show (svRd (ofL (bN d) xs)).pred (a.tmps.getD 72 undef) wx from f72
                      refine rely_wp rfl ?_
                      exact opr_cv (RSumB_cv _ (ofL (bN d) xs) D1 wx (hT.tables HT.out) f72 (by omega) HD1.out) rfl Tryd.func22 (by kernel_rfl) (by kernel_rfl) (by simp only [List.map_toArray, List.map_cons, List.map_nil, eval_tmp]) hK
                    · -- 6: Op.binOp BinOp.eql 31 t71 t73 31
                      intro a wx hT hF K hK
                      obtain ⟨f71, f73, _⟩ := hF
                      have f71 : a.tmps.getD 71 undef = .agg (rowA 32 (bF D1)) := f71
                      have f73 : a.tmps.getD 73 undef = .agg (rowA 32 (bF D1)) := f73
                      refine rely_wp rfl ?_
                      exact opr_eql_hash rfl f71 f73 (eqH_same D1) (hK _ _ (NewT.refl _) rfl)
                    · -- 7: Op.move t74
                      intro a wx hT hF K hK
                      obtain ⟨f74, _⟩ := hF
                      have f74 : a.tmps.getD 74 undef = .bool true := f74
                      refine rely_wp rfl ?_
                      exact opr_move (.inl rfl) (hK _ _ (NewT.refl _) f74)
                    · -- 8: Op.move t11
                      intro a wx hT hF K hK
                      obtain ⟨f11, f75, _⟩ := hF
                      have f11 : a.tmps.getD 11 undef = .bool true := f11
                      have f75 : a.tmps.getD 75 undef = .bool true := f75
                      refine rely_wp (rely_guard f75) ?_
                      exact opr_move (.inl rfl) (hK _ _ (NewT.refl _) f11)
                    · -- 9: Op.unOp UnOp.not 4 t76
                      intro a wx hT hF K hK
                      obtain ⟨f76, f75, _⟩ := hF
                      have f76 : a.tmps.getD 76 undef = .bool true := f76
                      have f75 : a.tmps.getD 75 undef = .bool true := f75
                      refine rely_wp (rely_guard f75) ?_
                      simp only [Array.getD_eq_getD_getElem?] at f76
                      simp only [Array.getD_eq_getD_getElem?] at f75
                      go_simp
                      exact hK _ _ (NewT.refl _) rfl
                    · -- 10: Op.move t77
                      intro a wx hT hF K hK
                      obtain ⟨f77, f75, _⟩ := hF
                      have f77 : a.tmps.getD 77 undef = .bool false := f77
                      have f75 : a.tmps.getD 75 undef = .bool true := f75
                      refine rely_wp (rely_guard f75) ?_
                      exact opr_move (.inl rfl) (hK _ _ (NewT.refl _) f77)
                    · -- 11: Op.move t0
                      intro a wx hT hF K hK
                      obtain ⟨f0, f78, _⟩ := hF
                      have f0 : a.tmps.getD 0 undef = .int .u8 (bN d) := f0
                      have f78 : a.tmps.getD 78 undef = .bool false := f78
                      refine rely_wp (rely_guard f78) ?_
                      exact opr_move (.inl rfl) (hK _ _ (NewT.refl _) f0)
                    · -- 12: Op.convert 5 3 t79
                      intro a wx hT hF K hK
                      obtain ⟨f79, f78, _⟩ := hF
                      have f79 : a.tmps.getD 79 undef = .int .u8 (bN d) := f79
                      have f78 : a.tmps.getD 78 undef = .bool false := f78
                      refine rely_wp (rely_guard f78) ?_
                      simp only [Array.getD_eq_getD_getElem?] at f79
                      simp only [Array.getD_eq_getD_getElem?] at f78
                      go_simp
                      exact hK _ _ (NewT.refl _) rfl
                    · -- 13: Op.move t2
                      intro a wx hT hF K hK
                      obtain ⟨f2, f78, _⟩ := hF
                      have f2 : a.tmps.getD 2 undef = .slice Aa na ca := f2
                      have f78 : a.tmps.getD 78 undef = .bool false := f78
                      refine rely_wp (rely_guard f78) ?_
                      exact opr_move (.inl rfl) (hK _ _ (NewT.refl _) (by rw [eval_tmp, f2]; exact hT.partsL Ha.out))
                    · -- 14: Op.call ( value (Operand.func 30), args := #[t80, t81], argT
                      intro a wx hT hF K hK
                      obtain ⟨f80, f81, f78, _⟩ := hF
                      have f80 : a.tmps.getD 80 undef = .int .i64 (bN d) := f80
                      replace f81 := show (svParts xs).pred (a.tmps.getD 81 undef) wx from f81
                      have f78 : a.tmps.getD 78 undef = .bool false := f78
                      refine rely_wp (rely_guard f78) ?_
                      exact opr_cv (Of_cv (bN d) _ xs D1 wx (hT.tables HT.out) f81 (by rw [Hna.out]; omega) (by omega) HD1.out) rfl Tryd.func30 (by kernel_rfl) (by kernel_rfl) (by simp only [List.map_toArray, List.map_cons, List.map_nil, eval_tmp, f80]) hK
                    · -- 15: Op.move t1
                      intro a wx hT hF K hK
                      obtain ⟨f1, f78, _⟩ := hF
                      have f1 : a.tmps.getD 1 undef = .int .u8 (bN e) := f1
                      have f78 : a.tmps.getD 78 undef = .bool false := f78
                      refine rely_wp (rely_guard f78) ?_
                      exact opr_move (.inl rfl) (hK _ _ (NewT.refl _) f1)
                    · -- 16: Op.convert 5 3 t83
                      intro a wx hT hF K hK
                      obtain ⟨f83, f78, _⟩ := hF
                      have f83 : a.tmps.getD 83 undef = .int .u8 (bN e) := f83
                      have f78 : a.tmps.getD 78 undef = .bool false := f78
                      refine rely_wp (rely_guard f78) ?_
                      simp only [Array.getD_eq_getD_getElem?] at f83
                      simp only [Array.getD_eq_getD_getElem?] at f78
                      go_simp
                      exact hK _ _ (NewT.refl _) rfl
                    · -- 17: Op.move t3
                      intro a wx hT hF K hK
                      obtain ⟨f3, f78, _⟩ := hF
                      have f3 : a.tmps.getD 3 undef = .slice Ab nb cb := f3
                      have f78 : a.tmps.getD 78 undef = .bool false := f78
                      refine rely_wp (rely_guard f78) ?_
                      exact opr_move (.inl rfl) (hK _ _ (NewT.refl _) (by rw [eval_tmp, f3]; exact hT.partsL Hb.out))
                    · -- 18: Op.call ( value (Operand.func 30), args := #[t84, t85], argT
                      intro a wx hT hF K hK
                      obtain ⟨f84, f85, f78, _⟩ := hF
                      have f84 : a.tmps.getD 84 undef = .int .i64 (bN e) := f84
                      replace f85 := show (svParts ys).pred (a.tmps.getD 85 undef) wx from f85
                      have f78 : a.tmps.getD 78 undef = .bool false := f78
                      refine rely_wp (rely_guard f78) ?_
                      exact opr_cv (Of_cv (bN e) _ ys D2 wx (hT.tables HT.out) f85 (by rw [Hnb.out]; omega) (by omega) HD2.out) rfl Tryd.func30 (by kernel_rfl) (by kernel_rfl) (by simp only [List.map_toArray, List.map_cons, List.map_nil, eval_tmp, f84]) hK
                    · -- 19: Op.binOp BinOp.eql 31 t82 t86 31
                      intro a wx hT hF K hK
                      obtain ⟨f82, f86, f78, _⟩ := hF
                      have f82 : a.tmps.getD 82 undef = .agg (rowA 32 (bF D1)) := f82
                      have f86 : a.tmps.getD 86 undef = .agg (rowA 32 (bF D2)) := f86
                      have f78 : a.tmps.getD 78 undef = .bool false := f78
                      refine rely_wp (rely_guard f78) ?_
                      exact opr_eql_hash rfl f82 f86 HD12.out (hK _ _ (NewT.refl _) rfl)
                    · -- 20: Op.pick t78 (const (Value.bool true)) t87
                      intro a wx hT hF K hK
                      obtain ⟨f78, f87, f75, _⟩ := hF
                      have f78 : a.tmps.getD 78 undef = .bool false := f78
                      have f87 : a.tmps.getD 87 undef = .bool true := f87
                      have f75 : a.tmps.getD 75 undef = .bool true := f75
                      refine rely_wp (rely_guard f75) ?_
                      exact opr_pick_false rfl f78 (hK _ _ (NewT.refl _) f87)
                    · -- 21: Op.pick t75 t88 (const (Value.bool false))
                      intro a wx hT hF K hK
                      obtain ⟨f75, f88, _⟩ := hF
                      have f75 : a.tmps.getD 75 undef = .bool true := f75
                      have f88 : a.tmps.getD 88 undef = .bool true := f88
                      refine rely_wp rfl ?_
                      exact opr_pick_true rfl f75 (hK _ _ (NewT.refl _) f88)
                    · intro wx hT
                      intro u h; obtain rfl := h (by simp); clear h
                      intro u h; obtain rfl := h (by simp); clear h
                      intro u70 h; have g70 := h (by simp); clear h; replace g70 := show (svParts xs).pred u70 wx from g70
                      intro u h; obtain rfl := h (by simp); clear h
                      intro u72 h; have g72 := h (by simp); clear h; replace g72 := show (svRd (ofL (bN d) xs)).pred u72 wx from g72
                      intro u h; obtain rfl := h (by simp); clear h
                      intro u h; obtain rfl := h (by simp); clear h
                      intro u h; obtain rfl := h (by simp); clear h
                      intro u h; obtain rfl := h (by simp); clear h
                      intro u h; obtain rfl := h (by simp); clear h
                      intro u h; obtain rfl := h (by simp); clear h
                      intro u h; obtain rfl := h (by simp); clear h
                      intro u h; obtain rfl := h (by simp); clear h
                      intro u81 h; have g81 := h (by simp); clear h; replace g81 := show (svParts xs).pred u81 wx from g81
                      intro u h; obtain rfl := h (by simp); clear h
                      intro u h; obtain rfl := h (by simp); clear h
                      intro u h; obtain rfl := h (by simp); clear h
                      intro u85 h; have g85 := h (by simp); clear h; replace g85 := show (svParts ys).pred u85 wx from g85
                      intro u h; obtain rfl := h (by simp); clear h
                      intro u h; obtain rfl := h (by simp); clear h
                      intro u h; obtain rfl := h (by simp); clear h
                      intro u h; obtain rfl := h (by simp); clear h
                      refine relyEnd_nil rfl ?_
                      simp only [Act.put, List.setIfInBounds_toArray, List.set_cons_zero, List.set_cons_succ]
                      refine opr_move (.inr rfl) ?_
                      go_simp
                      go_wp2
                      go_ret
                      exact ⟨rfl, (NewT.trans _ _ _ hB hT).out⟩
                  | false =>
                    go_upto_region 13 with fail
                    refine wp_region_seq NewT [SV.eq (.int .u8 (bN d)), SV.eq (.int .i64 (bN d)), svParts xs, SV.eq (.agg (rowA 32 (bF D1))), svRd (ofL (bN d) xs), SV.eq (.agg (rowA 32 (bF D1))), SV.eq (.bool true), SV.eq (.bool true), SV.eq (.bool false), SV.eq (.bool true), SV.eq (.bool true), SV.eq undef, SV.eq undef, SV.eq undef, SV.eq undef, SV.eq undef, SV.eq undef, SV.eq undef, SV.eq undef, SV.eq undef, SV.eq (.bool true), SV.eq (.bool true)] [([(0, none)], none), ([(68, some 0)], none), ([(2, none)], none), ([(69, some 1), (70, some 2)], none), ([(9, none)], none), ([(72, some 4)], none), ([(71, some 3), (73, some 5)], none), ([(74, some 6)], none), ([(11, none), (75, some 7)], some (75, true)), ([(76, some 8), (75, some 7)], some (75, true)), ([(77, some 9), (75, some 7)], some (75, true)), ([(0, none), (78, some 10)], some (78, false)), ([(79, some 11), (78, some 10)], some (78, false)), ([(2, none), (78, some 10)], some (78, false)), ([(80, some 12), (81, some 13), (78, some 10)], some (78, false)), ([(1, none), (78, some 10)], some (78, false)), ([(83, some 15), (78, some 10)], some (78, false)), ([(3, none), (78, some 10)], some (78, false)), ([(84, some 16), (85, some 17), (78, some 10)], some (78, false)), ([(82, some 14), (86, some 18), (78, some 10)], some (78, false)), ([(78, some 10), (87, some 19), (75, some 7)], some (75, true)), ([(75, some 7), (88, some 20)], none)] 90 rfl rfl (by kernel_rfl) rfl NewT.trans (NewT.refl _) (Nat.le_of_ble_eq_true rfl) ⟨?_, ?_, ?_, ?_, ?_, ?_, ?_, ?_, ?_, ?_, ?_, ?_, ?_, ?_, ?_, ?_, ?_, ?_, ?_, ?_, ?_, ?_, trivial⟩ ?_
                    · -- 0: Op.move t0
                      intro a wx hT hF K hK
                      obtain ⟨f0, _⟩ := hF
                      have f0 : a.tmps.getD 0 undef = .int .u8 (bN d) := f0
                      refine rely_wp rfl ?_
                      exact opr_move (.inl rfl) (hK _ _ (NewT.refl _) f0)
                    · -- 1: Op.convert 5 3 t68
                      intro a wx hT hF K hK
                      obtain ⟨f68, _⟩ := hF
                      have f68 : a.tmps.getD 68 undef = .int .u8 (bN d) := f68
                      refine rely_wp rfl ?_
                      simp only [Array.getD_eq_getD_getElem?] at f68
                      go_simp
                      exact hK _ _ (NewT.refl _) rfl
                    · -- 2: Op.move t2
                      intro a wx hT hF K hK
                      obtain ⟨f2, _⟩ := hF
                      have f2 : a.tmps.getD 2 undef = .slice Aa na ca := f2
                      refine rely_wp rfl ?_
                      exact opr_move (.inl rfl) (hK _ _ (NewT.refl _) (by rw [eval_tmp, f2]; exact hT.partsL Ha.out))
                    · -- 3: Op.call ( value (Operand.func 30), args := #[t69, t70], argT
                      intro a wx hT hF K hK
                      obtain ⟨f69, f70, _⟩ := hF
                      have f69 : a.tmps.getD 69 undef = .int .i64 (bN d) := f69
                      replace f70 := show (svParts xs).pred (a.tmps.getD 70 undef) wx from f70
                      refine rely_wp rfl ?_
                      exact opr_cv (Of_cv (bN d) _ xs D1 wx (hT.tables HT.out) f70 (by rw [Hna.out]; omega) (by omega) HD1.out) rfl Tryd.func30 (by kernel_rfl) (by kernel_rfl) (by simp only [List.map_toArray, List.map_cons, List.map_nil, eval_tmp, f69]) hK
                    · -- 4: Op.move t9
                      intro a wx hT hF K hK
                      obtain ⟨f9, _⟩ := hF
                      have f9 : a.tmps.getD 9 undef = u9 := f9
                      refine rely_wp rfl ?_
                      exact opr_move (.inl rfl) (hK _ _ (NewT.refl _) (by rw [eval_tmp, f9]; exact hT.rd Hx.out))
                    · -- 5: Op.call ( value (Operand.func 22), args := #[t72], argTypes 
                      intro a wx hT hF K hK
                      obtain ⟨f72, _⟩ := hF
                      replace f72 := show (svRd (ofL (bN d) xs)).pred (a.tmps.getD 72 undef) wx from f72
                      refine rely_wp rfl ?_
                      exact opr_cv (RSumB_cv _ (ofL (bN d) xs) D1 wx (hT.tables HT.out) f72 (by omega) HD1.out) rfl Tryd.func22 (by kernel_rfl) (by kernel_rfl) (by simp only [List.map_toArray, List.map_cons, List.map_nil, eval_tmp]) hK
                    · -- 6: Op.binOp BinOp.eql 31 t71 t73 31
                      intro a wx hT hF K hK
                      obtain ⟨f71, f73, _⟩ := hF
                      have f71 : a.tmps.getD 71 undef = .agg (rowA 32 (bF D1)) := f71
                      have f73 : a.tmps.getD 73 undef = .agg (rowA 32 (bF D1)) := f73
                      refine rely_wp rfl ?_
                      exact opr_eql_hash rfl f71 f73 (eqH_same D1) (hK _ _ (NewT.refl _) rfl)
                    · -- 7: Op.move t74
                      intro a wx hT hF K hK
                      obtain ⟨f74, _⟩ := hF
                      have f74 : a.tmps.getD 74 undef = .bool true := f74
                      refine rely_wp rfl ?_
                      exact opr_move (.inl rfl) (hK _ _ (NewT.refl _) f74)
                    · -- 8: Op.move t11
                      intro a wx hT hF K hK
                      obtain ⟨f11, f75, _⟩ := hF
                      have f11 : a.tmps.getD 11 undef = .bool false := f11
                      have f75 : a.tmps.getD 75 undef = .bool true := f75
                      refine rely_wp (rely_guard f75) ?_
                      exact opr_move (.inl rfl) (hK _ _ (NewT.refl _) f11)
                    · -- 9: Op.unOp UnOp.not 4 t76
                      intro a wx hT hF K hK
                      obtain ⟨f76, f75, _⟩ := hF
                      have f76 : a.tmps.getD 76 undef = .bool false := f76
                      have f75 : a.tmps.getD 75 undef = .bool true := f75
                      refine rely_wp (rely_guard f75) ?_
                      simp only [Array.getD_eq_getD_getElem?] at f76
                      simp only [Array.getD_eq_getD_getElem?] at f75
                      go_simp
                      exact hK _ _ (NewT.refl _) rfl
                    · -- 10: Op.move t77
                      intro a wx hT hF K hK
                      obtain ⟨f77, f75, _⟩ := hF
                      have f77 : a.tmps.getD 77 undef = .bool true := f77
                      have f75 : a.tmps.getD 75 undef = .bool true := f75
                      refine rely_wp (rely_guard f75) ?_
                      exact opr_move (.inl rfl) (hK _ _ (NewT.refl _) f77)
                    · -- 11: Op.move t0
                      intro a wx hT hF K hK
                      obtain ⟨f0, f78, _⟩ := hF
                      have f0 : a.tmps.getD 0 undef = .int .u8 (bN d) := f0
                      have f78 : a.tmps.getD 78 undef = .bool true := f78
                      exact rely_skip (rely_guard_no f78 (by decide)) (hK _ _ (NewT.refl _) rfl)
                    · -- 12: Op.convert 5 3 t79
                      intro a wx hT hF K hK
                      obtain ⟨f79, f78, _⟩ := hF
                      have f79 : a.tmps.getD 79 undef = undef := f79
                      have f78 : a.tmps.getD 78 undef = .bool true := f78
                      exact rely_skip (rely_guard_no f78 (by decide)) (hK _ _ (NewT.refl _) rfl)
                    · -- 13: Op.move t2
                      intro a wx hT hF K hK
                      obtain ⟨f2, f78, _⟩ := hF
                      have f2 : a.tmps.getD 2 undef = .slice Aa na ca := f2
                      have f78 : a.tmps.getD 78 undef = .bool true := f78
                      exact rely_skip (rely_guard_no f78 (by decide)) (hK _ _ (NewT.refl _) rfl)
                    · -- 14: Op.call ( value (Operand.func 30), args := #[t80, t81], argT
                      intro a wx hT hF K hK
                      obtain ⟨f80, f81, f78, _⟩ := hF
                      have f80 : a.tmps.getD 80 undef = undef := f80
                      have f81 : a.tmps.getD 81 undef = undef := f81
                      have f78 : a.tmps.getD 78 undef = .bool true := f78
                      exact rely_skip (rely_guard_no f78 (by decide)) (hK _ _ (NewT.refl _) rfl)
                    · -- 15: Op.move t1
                      intro a wx hT hF K hK
                      obtain ⟨f1, f78, _⟩ := hF
                      have f1 : a.tmps.getD 1 undef = .int .u8 (bN e) := f1
                      have f78 : a.tmps.getD 78 undef = .bool true := f78
                      exact rely_skip (rely_guard_no f78 (by decide)) (hK _ _ (NewT.refl _) rfl)
                    · -- 16: Op.convert 5 3 t83
                      intro a wx hT hF K hK
                      obtain ⟨f83, f78, _⟩ := hF
                      have f83 : a.tmps.getD 83 undef = undef := f83
                      have f78 : a.tmps.getD 78 undef = .bool true := f78
                      exact rely_skip (rely_guard_no f78 (by decide)) (hK _ _ (NewT.refl _) rfl)
                    · -- 17: Op.move t3
                      intro a wx hT hF K hK
                      obtain ⟨f3, f78, _⟩ := hF
                      have f3 : a.tmps.getD 3 undef = .slice Ab nb cb := f3
                      have f78 : a.tmps.getD 78 undef = .bool true := f78
                      exact rely_skip (rely_guard_no f78 (by decide)) (hK _ _ (NewT.refl _) rfl)
                    · -- 18: Op.call ( value (Operand.func 30), args := #[t84, t85], argT
                      intro a wx hT hF K hK
                      obtain ⟨f84, f85, f78, _⟩ := hF
                      have f84 : a.tmps.getD 84 undef = undef := f84
                      have f85 : a.tmps.getD 85 undef = undef := f85
                      have f78 : a.tmps.getD 78 undef = .bool true := f78
                      exact rely_skip (rely_guard_no f78 (by decide)) (hK _ _ (NewT.refl _) rfl)
                    · -- 19: Op.binOp BinOp.eql 31 t82 t86 31
                      intro a wx hT hF K hK
                      obtain ⟨f82, f86, f78, _⟩ := hF
                      have f82 : a.tmps.getD 82 undef = undef := f82
                      have f86 : a.tmps.getD 86 undef = undef := f86
                      have f78 : a.tmps.getD 78 undef = .bool true := f78
                      exact rely_skip (rely_guard_no f78 (by decide)) (hK _ _ (NewT.refl _) rfl)
                    · -- 20: Op.pick t78 (const (Value.bool true)) t87
                      intro a wx hT hF K hK
                      obtain ⟨f78, f87, f75, _⟩ := hF
                      have f78 : a.tmps.getD 78 undef = .bool true := f78
                      have f87 : a.tmps.getD 87 undef = undef := f87
                      have f75 : a.tmps.getD 75 undef = .bool true := f75
                      refine rely_wp (rely_guard f75) ?_
                      exact opr_pick_true rfl f78 (hK _ _ (NewT.refl _) rfl)
                    · -- 21: Op.pick t75 t88 (const (Value.bool false))
                      intro a wx hT hF K hK
                      obtain ⟨f75, f88, _⟩ := hF
                      have f75 : a.tmps.getD 75 undef = .bool true := f75
                      have f88 : a.tmps.getD 88 undef = .bool true := f88
                      refine rely_wp rfl ?_
                      exact opr_pick_true rfl f75 (hK _ _ (NewT.refl _) f88)
                    · intro wx hT
                      intro u h; obtain rfl := h (by simp); clear h
                      intro u h; obtain rfl := h (by simp); clear h
                      intro u70 h; have g70 := h (by simp); clear h; replace g70 := show (svParts xs).pred u70 wx from g70
                      intro u h; obtain rfl := h (by simp); clear h
                      intro u72 h; have g72 := h (by simp); clear h; replace g72 := show (svRd (ofL (bN d) xs)).pred u72 wx from g72
                      intro u h; obtain rfl := h (by simp); clear h
                      intro u h; obtain rfl := h (by simp); clear h
                      intro u h; obtain rfl := h (by simp); clear h
                      intro u h; obtain rfl := h (by simp); clear h
                      intro u h; obtain rfl := h (by simp); clear h
                      intro u h; obtain rfl := h (by simp); clear h
                      intro u h; obtain rfl := h (by simp); clear h
                      intro u h; obtain rfl := h (by simp); clear h
                      intro u h; obtain rfl := h (by simp); clear h
                      intro u h; obtain rfl := h (by simp); clear h
                      intro u h; obtain rfl := h (by simp); clear h
                      intro u h; obtain rfl := h (by simp); clear h
                      intro u h; obtain rfl := h (by simp); clear h
                      intro u h; obtain rfl := h (by simp); clear h
                      intro u h; obtain rfl := h (by simp); clear h
                      intro u h; obtain rfl := h (by simp); clear h
                      intro u h; obtain rfl := h (by simp); clear h
                      refine relyEnd_nil rfl ?_
                      simp only [Act.put, List.setIfInBounds_toArray, List.set_cons_zero, List.set_cons_succ]
                      refine opr_move (.inr rfl) ?_
                      go_simp
                      go_wp2
                      go_ret
                      exact ⟨rfl, (NewT.trans _ _ _ hB hT).out⟩
open Go.ChangeShapes Go.WideShapes Go.ChangeAt Go.WideMaps Go.WideElems in
theorem MacLists_walk (n0 n1 : Int) (va vb : Value) (xs ys : List (List UInt8)) (w : World) (hT : Tables w) (h0 : (Lit.int .u8 n0).wf = true) (h1 : (Lit.int .u8 n1).wf = true) (hpa : Parts w va xs) (hba : ∀ l ∈ xs, l.length ≤ 140737488351232) (hpb : Parts w vb ys) (hbb : ∀ l ∈ ys, l.length ≤ 140737488351232) :
    Calls Tryd.prog 12 #[.int .u8 n0, .int .u8 n1, va, vb] w fun e w' => e = .returned (.bool true) ∧ Below w.heap.size w w' := by
  have key : ∀ n : Int, (Lit.int .u8 n).wf = true → ∃ d : UInt8, n = bN d := fun n hn => by
    have := bounds_u8 hn
    exact ⟨UInt8.ofNat n.toNat, by unfold bN; rw [UInt8.toNat_ofNat']; omega⟩
  obtain ⟨d, rfl⟩ := key n0 h0
  obtain ⟨e, rfl⟩ := key n1 h1
  exact MacLists_walk0 d e va vb xs ys w hT hpa hba hpb hbb
end Go.Proofs.YtpoebajpmkcjdaaDoor
