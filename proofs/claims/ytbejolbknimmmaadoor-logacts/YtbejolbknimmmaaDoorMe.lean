/- The reference's reader: the number that stands next. -/
import Derived.Test.YtbejolbknimmmaaDoorMd
import Derived.Test.YtbejolbknimmmaaDoorMc
import Derived.Test.YtbejolbknimmmaaDoorMb
import Derived.Test.YtbejolbknimmmaaDoorMa
import Derived.Deep.Cut
set_option linter.all false
namespace Go.Proofs.YtbejolbknimmmaaDoor
open Go Go.RowKit
set_option maxRecDepth 8000
set_option linter.all false
/-- The reference's reader: bytes, how many were read, the error's number. -/
def rrF (v : Value) (q : Nat) (e : Nat) (i : Nat) : Value := if i = 0 then v else if i = 1 then .int .i64 (q : Int) else .int .i64 (e : Int)
theorem rrF_c0 {w : World} {g : Nat} {v : Value} {q e : Nat} (h : w.rowIs g 73 3 (rrF v q e)) : w.cell? ⟨g, 0, none⟩ = some v := h.cell (i := 0) (by omega)
theorem rrF_c1 {w : World} {g : Nat} {v : Value} {q e : Nat} (h : w.rowIs g 73 3 (rrF v q e)) : w.cell? ⟨g, 1, none⟩ = some (.int .i64 (q : Int)) := h.cell (i := 1) (by omega)
theorem rrF_c2 {w : World} {g : Nat} {v : Value} {q e : Nat} (h : w.rowIs g 73 3 (rrF v q e)) : w.cell? ⟨g, 2, none⟩ = some (.int .i64 (e : Int)) := h.cell (i := 2) (by omega)
theorem rrF_set1 {w : World} {g : Nat} {v : Value} {q e q' : Nat} (h : w.rowIs g 73 3 (rrF v q e)) : (w.setCell ⟨g, 1, none⟩ (.int .i64 (q' : Int))).rowIs g 73 3 (rrF v q' e) :=
  (h.set 1 _).congr fun i hi => by
    have : i = 0 ∨ i = 1 ∨ i = 2 := by omega
    rcases this with rfl | rfl | rfl <;> simp [rrF]
theorem rrF_set2 {w : World} {g : Nat} {v : Value} {q e e' : Nat} (h : w.rowIs g 73 3 (rrF v q e)) : (w.setCell ⟨g, 2, none⟩ (.int .i64 (e' : Int))).rowIs g 73 3 (rrF v q e') :=
  (h.set 2 _).congr fun i hi => by
    have : i = 0 ∨ i = 1 ∨ i = 2 := by omega
    rcases this with rfl | rfl | rfl <;> simp [rrF]
theorem goN_cons (c : UInt8) (r : List UInt8) (i v : Nat) : goN (c :: r) i v = if (i = 0 ∧ c.toNat = 128) ∨ i = 5 then (0, 0, 2) else if 128 ≤ c.toNat then goN r (i + 1) (v * 128 + c.toNat % 128)
    else if 2147483647 < v * 128 + c.toNat % 128 then (0, 0, 2) else (v * 128 + c.toNat % 128, i + 1, 0) := rfl
theorem drop_at (S : List UInt8) (q : Nat) (h : q < S.length) : S.drop q = bAt S q :: S.drop (q + 1) := by
  rw [List.drop_eq_getElem_cons h]; simp [bAt, h]
set_option maxRecDepth 20000 in
set_option maxHeartbeats 4000000 in
theorem RNum9_c (g : Nat) (v : Value) (S : List UInt8) (p : Nat) (w : World) (h : w.rowIs g 73 3 (rrF v p 0)) (hS : RdV w [g] v S) (hp : p ≤ S.length) (hl : S.length ≤ 65536) :
    Calls Tryd.prog 46 #[.pointer (some ⟨g, 0, none⟩)] w fun e w' => e = .returned (.int .i64 ((goN (S.drop p) 0 0).1 : Int)) ∧ RT g w w' ∧ w'.rowIs g 73 3 (rrF v (p + (goN (S.drop p) 0 0).2.1) (goN (S.drop p) 0 0).2.2) := by
  have c0 := rrF_c0 h
  have c1 := rrF_c1 h
  have c2 := rrF_c2 h
  have f1 := h.frozen 1
  have f2 := h.frozen 2
  have H := Lib.hid h
  obtain ⟨A, cap, rfl, hcap, _, h3⟩ := hS
  have HC := Lib.hid h3
  obtain ⟨G, hG⟩ := hid_ex (goN (S.drop p) 0 0)
  rw [hG.out]
  clear h h3
  go_enter Tryd.func46, Tryd.ntmps46
  go_wp2
  go_loopw [3, 4] (fun n i wr => ∃ m q : Nat, n = .int .i64 (m : Int) ∧ i = .int .i64 (q : Int) ∧ p ≤ q ∧ q ≤ p + 5 ∧ q ≤ S.length ∧ m ≤ 34359738367 ∧ Hid (m < 128 ^ (q - p)) ∧ Hid (goN (S.drop q) (q - p) m = G) ∧ w = wr) (fun _ i _ => S.length - (intOf i).toNat)
  case atStart => exact ⟨0, p, rfl, rfl, by omega, by omega, hp, by omega, Lib.hid (by simp), Lib.hid (by rw [Nat.sub_self]; exact hG.out), rfl⟩
  case round =>
    obtain ⟨m, q, rfl, rfl, hq1, hq2, hq3, hm, HM, HG, rfl⟩ := hrel
    by_cases hlt : q < S.length
    · have it : (q : Int) < (S.length : Int) := by omega
      obtain ⟨b, o, rfl, hbg, hc⟩ := HC.out (by omega)
      have hcell := hc q hlt
      have hd := drop_at S q hlt
      obtain ⟨c, hce⟩ : ∃ c, bAt S q = c := ⟨_, rfl⟩
      rw [hce] at hcell hd
      have hg := HG.out
      rw [hd, goN_cons] at hg
      have hbn : bN c = (c.toNat : Int) := rfl
      rw [hbn] at hcell
      obtain ⟨k, hk⟩ : ∃ k, c.toNat = k := ⟨_, rfl⟩
      have hk8 : k < 256 := by rw [← hk]; exact c.toNat_lt
      rw [hk] at hcell hg
      have HGG := Lib.hid hg
      clear hce hd hc hbn hk hg
      by_cases hA : (q - p = 0 ∧ k = 128) ∨ q - p = 5
      · have hg : (0, 0, 2) = G := by have := HGG.out; rwa [if_pos hA] at this
        rcases hA with ⟨h0, rfl⟩ | h5
        · obtain rfl : q = p := by omega
          have HGE := Lib.hid hg
          clear hg
          go_wp2
          go_ret
          rw [← HGE.out]
          exact ⟨rfl, RT.setCell _ 2 _, rrF_set2 H.out⟩
        · have hne : ((q : Int) == (p : Int)) = false := beq_eq_false_iff_ne.2 (by omega)
          have h4 : (4 : Int) < (q : Int) - (p : Int) := by omega
          have HGE := Lib.hid hg
          clear hg
          go_wp2
          go_ret
          rw [← HGE.out]
          exact ⟨rfl, RT.setCell _ 2 _, rrF_set2 H.out⟩
      · have hle4 : q - p ≤ 4 := by omega
        have hm4 : m ≤ 268435455 := by
          have h1 := HM.out
          have h2 : 128 ^ (q - p) ≤ 128 ^ 4 := Nat.pow_le_pow_right (by omega) hle4
          omega
        obtain ⟨r, hr⟩ : ∃ r, k % 128 = r := ⟨_, rfl⟩
        have hr8 : r < 128 := by omega
        have hrem : Int.tmod (k : Int) 128 = (r : Int) := by rw [← hr, Int.tmod_eq_emod_of_nonneg (by omega)]; omega
        have hg := HGG.out
        rw [if_neg hA, hr] at hg
        have HG2 := Lib.hid hg
        have h4 : ¬ (4 : Int) < (q : Int) - (p : Int) := by omega
        have hM2 : m * 128 + r < 128 ^ (q + 1 - p) := by
          have h1 := HM.out
          rw [show q + 1 - p = (q - p) + 1 by omega, Nat.pow_succ]
          omega
        have HM2 := Lib.hid hM2
        clear hg hr HGG hM2
        have key : ∀ bb : Bool, ((q : Int) == (p : Int)) = bb → (bb && ((k : Int) == 128)) = false := fun bb hb => by
          cases bb
          · rfl
          · have : q = p := by have := eq_of_beq hb; omega
            have : k ≠ 128 := fun e => hA (.inl ⟨by omega, e⟩)
            simp; omega
        by_cases hb : q = p
        · subst hb
          have hk128 : ((k : Int) == 128) = false := by have := key true (by simp); simpa using this
          clear key hA h4
          by_cases hk2 : 128 ≤ k
          · have hk3 : ¬ (k : Int) < 128 := by omega
            have hg := HG2.out
            rw [if_pos hk2] at hg
            have HG3 := Lib.hid hg
            clear hg
            go_wp2
            go_roundw
            case rel => exact ⟨m * 128 + r, q + 1, by go_num, by go_num, by omega, by omega, by omega, by omega, HM2, Lib.hid (by rw [show q + 1 - q = q - q + 1 by omega]; exact HG3.out), by first | rfl | trivial⟩
            case measure => simp [intOf]; omega
          · have hk3 : (k : Int) < 128 := by omega
            by_cases hbig : 2147483647 < m * 128 + r
            · have hb2 : (2147483647 : Int) < (m : Int) * 128 + (r : Int) := by omega
              have hg := HG2.out
              rw [if_neg hk2, if_pos hbig] at hg
              have HG3 := Lib.hid hg
              clear hg
              go_wp2
              go_ret
              rw [← HG3.out]
              exact ⟨rfl, RT.setCell _ 2 _, rrF_set2 H.out⟩
            · have hb2 : ¬ (2147483647 : Int) < (m : Int) * 128 + (r : Int) := by omega
              have hg := HG2.out
              rw [if_neg hk2, if_neg hbig] at hg
              have HG3 := Lib.hid hg
              clear hg
              go_wp2
              go_ret
              rw [← HG3.out]
              refine ⟨by go_num, RT.setCell _ 1 _, ?_⟩
              have := rrF_set1 (q' := q + (q - q + 1)) H.out
              rw [show ((q + (q - q + 1) : Nat) : Int) = (q : Int) + 1 by omega] at this
              exact this
        · have hne : ((q : Int) == (p : Int)) = false := beq_eq_false_iff_ne.2 (by omega)
          clear key hA
          by_cases hk2 : 128 ≤ k
          · have hk3 : ¬ (k : Int) < 128 := by omega
            have hg := HG2.out
            rw [if_pos hk2] at hg
            have HG3 := Lib.hid hg
            clear hg
            go_wp2
            go_roundw
            case rel => exact ⟨m * 128 + r, q + 1, by go_num, by go_num, by omega, by omega, by omega, by omega, HM2, Lib.hid (by rw [show q + 1 - p = q - p + 1 by omega]; exact HG3.out), by first | rfl | trivial⟩
            case measure => simp [intOf]; omega
          · have hk3 : (k : Int) < 128 := by omega
            by_cases hbig : 2147483647 < m * 128 + r
            · have hb2 : (2147483647 : Int) < (m : Int) * 128 + (r : Int) := by omega
              have hg := HG2.out
              rw [if_neg hk2, if_pos hbig] at hg
              have HG3 := Lib.hid hg
              clear hg
              go_wp2
              go_ret
              rw [← HG3.out]
              exact ⟨rfl, RT.setCell _ 2 _, rrF_set2 H.out⟩
            · have hb2 : ¬ (2147483647 : Int) < (m : Int) * 128 + (r : Int) := by omega
              have hg := HG2.out
              rw [if_neg hk2, if_neg hbig] at hg
              have HG3 := Lib.hid hg
              clear hg
              go_wp2
              go_ret
              rw [← HG3.out]
              refine ⟨by go_num, RT.setCell _ 1 _, ?_⟩
              have := rrF_set1 (q' := p + (q - p + 1)) H.out
              rw [show ((p + (q - p + 1) : Nat) : Int) = (q : Int) + 1 by omega] at this
              exact this
    · obtain rfl : q = S.length := by omega
      have hg := HG.out
      rw [List.drop_length] at hg
      simp only [goN] at hg
      have HGE := Lib.hid hg
      clear hg HG HM
      go_wp2
      go_ret
      rw [← HGE.out]
      exact ⟨rfl, RT.setCell _ 2 _, rrF_set2 H.out⟩
end Go.Proofs.YtbejolbknimmmaaDoor
/- The reference's reader: the bytes that stand next. -/
namespace Go.Proofs.YtbejolbknimmmaaDoor
open Go Go.RowKit
set_option maxRecDepth 8000
set_option linter.all false
theorem opr_fldN0 {a : Act} {w : World} {o : Oper} {K : Act → World → Prop} {Q : Exit → Act → World → Prop} {x : Operand} {g : Nat} (ho : o.op = .fieldAddr 73 x 0) (hx : a.eval x = .pointer (some ⟨g, 0, none⟩)) (h : K (a.put o.dst (.pointer (some ⟨g, 0, none⟩))) w) : o.wp Tryd.prog a w K Q :=
  opr_fld Tryd.underlying73 rfl info_sb1 ho hx (by rfl) h
theorem opr_fldN1 {a : Act} {w : World} {o : Oper} {K : Act → World → Prop} {Q : Exit → Act → World → Prop} {x : Operand} {g : Nat} (ho : o.op = .fieldAddr 73 x 1) (hx : a.eval x = .pointer (some ⟨g, 0, none⟩)) (h : K (a.put o.dst (.pointer (some ⟨g, 1, none⟩))) w) : o.wp Tryd.prog a w K Q :=
  opr_fld Tryd.underlying73 rfl info_int ho hx (by rfl) h
theorem opr_fldN2 {a : Act} {w : World} {o : Oper} {K : Act → World → Prop} {Q : Exit → Act → World → Prop} {x : Operand} {g : Nat} (ho : o.op = .fieldAddr 73 x 2) (hx : a.eval x = .pointer (some ⟨g, 0, none⟩)) (h : K (a.put o.dst (.pointer (some ⟨g, 2, none⟩))) w) : o.wp Tryd.prog a w K Q :=
  opr_fld Tryd.underlying73 rfl info_int ho hx (by rfl) h
theorem opr_bs0O {a : Act} {w : World} {o : Oper} {K : Act → World → Prop} {Q : Exit → Act → World → Prop} {B : Nat} (hB : B ≤ w.heap.size) (ho : o.op = .buildSlice 33 0 #[]) (h : ∀ v w', NewT w w' → (svOB B []).pred v w' → K (a.put o.dst v) w') : o.wp Tryd.prog a w K Q := by
  obtain ⟨dst, op, type, pos, after, guard⟩ := o
  simp only at ho
  subst ho
  exact opr_val (s := Instr.buildSlice 33 0 #[]) (by simp [execOp]) (v := .slice (some ⟨w.heap.size, 0, none⟩) 0 0) (w' := w.alloc (.cells #[] 5)) (by simp [go_sem]) (h _ _ (NewT.alloc _ _) ((ownB_empty w).mono hB))
/-- 'b[k:k+m]'. -/
theorem opr_midB {a : Act} {w : World} {o : Oper} {K : Act → World → Prop} {Q : Exit → Act → World → Prop} {x y z : Operand} {l : List UInt8} {k m : Nat} {kk mm : Int} (hk : k + m ≤ l.length) (hkk : kk = (k : Int)) (hmm : mm = (k : Int) + (m : Int)) (ho : o.op = .slice 33 x (some y) (some z) none) (hx : RdV w [] (a.eval x) l) (hy : a.eval y = .int .i64 kk) (hz : a.eval z = .int .i64 mm)
    (h : ∀ v, RdV w [] v ((l.drop k).take m) → K (a.put o.dst v) w) : o.wp Tryd.prog a w K Q := by
  subst hkk hmm
  obtain ⟨dst, op, type, pos, after, guard⟩ := o
  simp only at ho
  subst ho
  by_cases h0 : 0 < l.length
  · obtain ⟨A, cap, hv, h1, h2, h3⟩ := id hx
    obtain ⟨b, off, rfl, _, _⟩ := h3 h0
    rw [hv] at hx
    exact opr_val (s := Instr.sliceAt 33 (a.eval x) (some (a.eval y)) (some (a.eval z)) none) (by simp [execOp]) (by rw [hv, hy, hz]; simp only [Instr.sliceAt, Sem.run_bind, run_underlying Tryd.underlying33, Result.andThen_ok]; exact slice_mid b off l.length cap k m (by omega) w) (h _ (rd_mid hx hk))
  · obtain rfl : l = [] := List.eq_nil_of_length_eq_zero (by omega)
    obtain rfl : k = 0 := by simpa using (show k ≤ 0 by simp at hk; omega)
    obtain rfl : m = 0 := by simpa using (show m ≤ 0 by simp at hk; omega)
    obtain ⟨A, cap, hv, h1, h2, _⟩ := hx
    have hs := slice_to A 0 cap 0 (by omega) w
    have hsz : (sizeOf 5).run Tryd.prog w = .ok 1 w := by
      obtain ⟨i0, hi, _, hz1, _⟩ := info_parts info5
      simp [sizeOf, typeInfo, hi, hz1]
    refine opr_val (s := Instr.sliceAt 33 (a.eval x) (some (a.eval y)) (some (a.eval z)) none) (v := .slice A 0 cap) (w' := w) (by simp [execOp]) ?_ (h _ ⟨A, cap, by simp, by simp, h2, fun h => by simp at h⟩)
    rw [hv, hy, hz]
    cases A with
    | none => simp [Instr.sliceAt, Instr.slice, run_underlying Tryd.underlying33, Instr.sliceBounds, Instr.sliceBound, asIntOf, hsz]
    | some ad =>
      have : ad.add 0 = ad := by rcases ad with ⟨b, o, p⟩; cases p <;> rfl
      simp [Instr.sliceAt, Instr.slice, run_underlying Tryd.underlying33, Instr.sliceBounds, Instr.sliceBound, asIntOf, hsz, this]
set_option maxRecDepth 20000 in
set_option maxHeartbeats 4000000 in
theorem RBytes9_c (g : Nat) (v : Value) (S : List UInt8) (p : Nat) (w : World) (h : w.rowIs g 73 3 (rrF v p 0)) (hS : RdV w [g] v S) (hp : p ≤ S.length) (hl : S.length ≤ 65536) :
    Calls Tryd.prog 33 #[.pointer (some ⟨g, 0, none⟩), .int .i64 2000] w fun e w' => ∃ u, e = .returned u ∧ RT g w w' ∧ (∃ q, w'.rowIs g 73 3 (rrF v q (goB (S.drop p) 2000).2.2)) ∧ (svRdN w (goB (S.drop p) 2000).1).pred u w' := by
  have H := Lib.hid h
  have HS := Lib.hid hS
  have Hl := Lib.hid hl
  have Hp := Lib.hid hp
  have hgl := h.lt
  obtain ⟨nn, hnn⟩ := hid_ex (goN (S.drop p) 0 0).1
  obtain ⟨cc, hcc⟩ := hid_ex (goN (S.drop p) 0 0).2.1
  obtain ⟨er, her⟩ := hid_ex (goN (S.drop p) 0 0).2.2
  obtain ⟨G, hG⟩ := hid_ex (goB (S.drop p) 2000)
  have hGB : (if er ≠ 0 then ([], 0, er) else if (2000 : Int) < (nn : Int) then ([], 0, 4) else if (S.drop p).length < cc + nn then ([], 0, 3) else (((S.drop p).drop cc).take nn, cc + nn, 0)) = G := by
    rw [← hG.out, ← hnn.out, ← hcc.out, ← her.out]; rfl
  have HGB := Lib.hid hGB
  rw [hG.out]
  clear h hS hl hp hGB
  go_enter Tryd.func33, Tryd.ntmps33
  go_upto_region 2 with (go_at_call 46; refine (RNum9_c g v S p w H.out HS.out Hp.out Hl.out).mono ?_; rintro _ w1 ⟨rfl, hR1, hr1⟩; rw [hcc.out, her.out] at hr1; rw [hnn.out]; have T1 := Lib.hid hR1; have HR := Lib.hid hr1; have HS1 := Lib.hid (HS.out.keep hR1.keep); have c2 := rrF_c2 hr1; have f2 := hr1.frozen 2; clear hR1 hr1)
  by_cases h0 : er = 0
  rotate_left
  · have hne : ((er : Int) != 0) = true := by simp; omega
    have hg := HGB.out
    rw [if_pos h0] at hg
    have HG2 := Lib.hid hg
    clear hg
    go_wp2
    go_ret
    rw [← HG2.out]
    exact ⟨_, rfl, T1.out, ⟨_, HR.out⟩, fun L _ => rdV_nil _ _⟩
  subst h0
  have hg := HGB.out
  rw [if_neg (by simp)] at hg
  have hbd : cc ≤ (S.drop p).length := by
    have h1 := goN_bounds (S.drop p) 0 0 (by rw [her.out])
    rw [hcc.out] at h1
    omega
  rw [List.length_drop] at hbd
  have hnn2 : nn ≤ 2147483647 := by
    have h1 := goN_bounds (S.drop p) 0 0 (by rw [her.out])
    rw [hnn.out] at h1
    exact h1.1
  by_cases h4 : (2000 : Int) < (nn : Int)
  · rw [if_pos h4] at hg
    have HG2 := Lib.hid hg
    clear hg
    go_wp2
    go_ret
    rw [← HG2.out]
    exact ⟨_, rfl, RT.trans _ _ _ T1.out (RT.setCell _ 2 _), ⟨_, rrF_set2 (e' := 4) HR.out⟩, fun L _ => rdV_nil _ _⟩
  rw [if_neg h4] at hg
  obtain ⟨q, hq⟩ : ∃ q, p + cc = q := ⟨_, rfl⟩
  have hpl := Hp.out
  have hll := Hl.out
  rw [List.length_drop, List.drop_drop, hq] at hg
  have hiff : S.length - p < cc + nn ↔ S.length - q < nn := by omega
  rw [hq] at HR
  have HW : Hid (wrap64 ((S.length : Int) - (q : Int)) = ((S.length - q : Nat) : Int)) := Lib.hid (by unfold wrap64; omega)
  have HR1 := HR
  have HQL : Hid (q ≤ S.length) := Lib.hid (by omega)
  have hn2000 : nn ≤ 2000 := by omega
  clear hbd hpl hq
  go_upto_region 7 with fail
  refine wp_region_rely (NewT) [SV.eq (.int .i64 ((nn : Int))), SV.eq (.pointer (some ⟨g, 0, none⟩)), SV.eq (.pointer (some ⟨g, 0, none⟩)), SV.eq (.pointer (some ⟨g, 0, none⟩)), SV.eq (v), SV.eq (.int .i64 ((List.length (S) : Int))), SV.eq (.pointer (some ⟨g, 0, none⟩)), SV.eq (.pointer (some ⟨g, 0, none⟩)), SV.eq (.pointer (some ⟨g, 1, none⟩)), SV.eq (.int .i64 ((q : Int))), SV.eq (.int .i64 (((S.length - q : Nat) : Int)))] [([(5, none)], none), ([(0, none)], none), ([(20, some 1)], none), ([(21, some 2)], none), ([(22, some 3)], none), ([(23, some 4)], none), ([(0, none)], none), ([(25, some 6)], none), ([(26, some 7)], none), ([(27, some 8)], none), ([(24, some 5), (28, some 9)], none)] 60 rfl (by kernel_rfl) rfl (by kernel_rfl) (by kernel_rfl) rfl NewT.trans (NewT.drew _) (Nat.le_of_ble_eq_true rfl) ⟨?_, ?_, ?_, ?_, ?_, ?_, ?_, ?_, ?_, ?_, ?_, trivial⟩ ?_
  · exact fun a wx hT hF K hK => rely_wp rfl (opr_move (.inl rfl) (hK _ _ (NewT.refl _) hF.1))
  · exact fun a wx hT hF K hK => rely_wp rfl (opr_move (.inl rfl) (hK _ _ (NewT.refl _) hF.1))
  · exact fun a wx hT hF K hK => rely_wp rfl (opr_nilc rfl hF.1 (hK _ _ (NewT.refl _) rfl))
  · exact fun a wx hT hF K hK => rely_wp rfl (opr_fldN0 rfl hF.1 (hK _ _ (NewT.refl _) rfl))
  · exact fun a wx hT hF K hK => rely_wp rfl (opr_ldB (hT.row HR1.out) (by decide) rfl rfl hF.1 (hK _ _ (NewT.refl _) rfl))
  · intro a wx hT hF K hK
    obtain ⟨f23, _⟩ := hF
    have f23 : a.tmps.getD 23 undef = v := f23
    refine rely_wp rfl ?_
    exact opr_len_rd rfl (by rw [eval_tmp, f23]; exact (RdV.less (L' := []) (hT.rd HS1.out) (by simp))) (hK _ _ (NewT.refl _) rfl)
  · exact fun a wx hT hF K hK => rely_wp rfl (opr_move (.inl rfl) (hK _ _ (NewT.refl _) hF.1))
  · exact fun a wx hT hF K hK => rely_wp rfl (opr_nilc rfl hF.1 (hK _ _ (NewT.refl _) rfl))
  · exact fun a wx hT hF K hK => rely_wp rfl (opr_fldN1 rfl hF.1 (hK _ _ (NewT.refl _) rfl))
  · exact fun a wx hT hF K hK => rely_wp rfl (opr_ldI (hT.row HR1.out) (by decide) rfl rfl hF.1 (hK _ _ (NewT.refl _) rfl))
  · exact fun a wx hT hF K hK => rely_wp rfl (opr_sub (r := ((S.length - q : Nat) : Int)) Tryd.underlying3 (HW.out) rfl hF.1 hF.2.1 (hK _ _ (NewT.refl _) rfl))
  · intro wx hT
    iterate 11 (intro u h; obtain rfl := Eq.symm (h (by simp)); clear h)
    refine relyEnd_nil rfl ?_
    simp only [Act.put, List.setIfInBounds_toArray, List.set_cons_zero, List.set_cons_succ]
    refine opr_cmp (b := decide (((S.length - q : Nat) : Int) < (nn : Int))) (.inr (.inr (.inr (.inr (.inl ⟨rfl, rfl⟩))))) Tryd.underlying3 rfl rfl rfl ?_
    go_simp
    have hwx := hT
    by_cases h3 : S.length - q < nn
    · rw [if_pos (hiff.2 h3)] at hg
      have h3i : ((S.length - q : Nat) : Int) < (nn : Int) := by omega
      have HG2 := Lib.hid hg
      have HR3 := Lib.hid (hwx.row HR.out)
      have c2 := rrF_c2 HR3.out
      have f2 := HR3.out.frozen 2
      clear hg
      go_wp2
      go_ret
      rw [← HG2.out]
      have hA := RT.trans _ _ _ (RT.trans _ _ _ T1.out (RT.new (Nat.lt_of_lt_of_le hgl T1.out.below.size) hwx)) (RT.setCell wx 2 (.int .i64 3))
      first
        | exact ⟨_, rfl, hA, ⟨_, rrF_set2 (e' := 3) HR3.out⟩, fun L _ => rdV_nil _ _⟩
    · rw [if_neg (fun hh => h3 (hiff.1 hh))] at hg
      have h3i : ¬ ((S.length - q : Nat) : Int) < (nn : Int) := by omega
      have HG2 := Lib.hid hg
      have HR3 := Lib.hid (hwx.row HR.out)
      have c1 := rrF_c1 HR3.out
      have f1 := HR3.out.frozen 1
      have HSx := Lib.hid (hwx.rd HS1.out)
      have T2 := Lib.hid (RT.trans _ _ _ T1.out (RT.new (Nat.lt_of_lt_of_le hgl T1.out.below.size) hwx))
      have HQN : Hid (q + nn ≤ S.length) := Lib.hid (by have := HQL.out; omega)
      have hqn : q + nn ≤ 65536 := by have := HQN.out; omega
      clear hg hwx hiff h3i
      go_upto_region 11 with fail
      have hR2 := rrF_set1 (q' := q + nn) HR3.out
      rw [show ((q + nn : Nat) : Int) = (q : Int) + (nn : Int) by omega] at hR2
      have hS2 : RdV (wx.setCell ⟨g, 1, none⟩ (.int .i64 ((q : Int) + (nn : Int)))) [g] v S := HSx.out.keep (RT.setCell (R := g) wx 1 _).keep
      have hT2 := RT.trans _ _ _ T2.out (RT.setCell (R := g) wx 1 (.int .i64 ((q : Int) + (nn : Int))))
      generalize wx.setCell ⟨g, 1, none⟩ (.int .i64 ((q : Int) + (nn : Int))) = w2 at hR2 hS2 hT2 ⊢
      have HR2 := Lib.hid hR2
      have HS2 := Lib.hid hS2
      have T3 := Lib.hid hT2
      have HW2 : Hid (wrap64 (((q + nn : Nat) : Int) - (nn : Int)) = (q : Int)) := Lib.hid (by unfold wrap64; omega)
      clear hR2 hS2 hT2 f1 f2 c1
      refine wp_region_rely_tail (NewT) [svOB w2.heap.size [], SV.eq (.pointer (some ⟨g, 0, none⟩)), SV.eq (.pointer (some ⟨g, 0, none⟩)), SV.eq (.pointer (some ⟨g, 0, none⟩)), SV.eq (v), SV.eq (.pointer (some ⟨g, 0, none⟩)), SV.eq (.pointer (some ⟨g, 0, none⟩)), SV.eq (.pointer (some ⟨g, 1, none⟩)), SV.eq (.int .i64 (((q + nn : Nat) : Int))), SV.eq (.int .i64 ((nn : Int))), SV.eq (.int .i64 ((q : Int))), SV.eq (.pointer (some ⟨g, 0, none⟩)), SV.eq (.pointer (some ⟨g, 0, none⟩)), SV.eq (.pointer (some ⟨g, 1, none⟩)), SV.eq (.int .i64 (((q + nn : Nat) : Int))), svRd (List.take nn (List.drop q S))] [([], none), ([(0, none)], none), ([(44, some 1)], none), ([(45, some 2)], none), ([(46, some 3)], none), ([(0, none)], none), ([(48, some 5)], none), ([(49, some 6)], none), ([(50, some 7)], none), ([(5, none)], none), ([(51, some 8), (52, some 9)], none), ([(0, none)], none), ([(54, some 11)], none), ([(55, some 12)], none), ([(56, some 13)], none), ([(47, some 4), (53, some 10), (57, some 14)], none)] 60 16 (by kernel_rfl) rfl rfl (Nat.zero_lt_succ _) (by kernel_rfl) (by kernel_rfl) (by kernel_rfl) NewT.trans (NewT.drew _) (Nat.le_of_ble_eq_true rfl) ⟨?_, ?_, ?_, ?_, ?_, ?_, ?_, ?_, ?_, ?_, ?_, ?_, ?_, ?_, ?_, ?_, trivial⟩ ?_
      · exact fun a wx hT hF K hK => rely_wp rfl (opr_bs0O (B := w2.heap.size) hT.size rfl hK)
      · exact fun a wx hT hF K hK => rely_wp rfl (opr_move (.inl rfl) (hK _ _ (NewT.refl _) hF.1))
      · exact fun a wx hT hF K hK => rely_wp rfl (opr_nilc rfl hF.1 (hK _ _ (NewT.refl _) rfl))
      · exact fun a wx hT hF K hK => rely_wp rfl (opr_fldN0 rfl hF.1 (hK _ _ (NewT.refl _) rfl))
      · exact fun a wx hT hF K hK => rely_wp rfl (opr_ldB (hT.row HR2.out) (by decide) rfl rfl hF.1 (hK _ _ (NewT.refl _) rfl))
      · exact fun a wx hT hF K hK => rely_wp rfl (opr_move (.inl rfl) (hK _ _ (NewT.refl _) hF.1))
      · exact fun a wx hT hF K hK => rely_wp rfl (opr_nilc rfl hF.1 (hK _ _ (NewT.refl _) rfl))
      · exact fun a wx hT hF K hK => rely_wp rfl (opr_fldN1 rfl hF.1 (hK _ _ (NewT.refl _) rfl))
      · exact fun a wx hT hF K hK => rely_wp rfl (opr_ldI (hT.row HR2.out) (by decide) rfl rfl hF.1 (hK _ _ (NewT.refl _) rfl))
      · exact fun a wx hT hF K hK => rely_wp rfl (opr_move (.inl rfl) (hK _ _ (NewT.refl _) hF.1))
      · exact fun a wx hT hF K hK => rely_wp rfl (opr_sub (r := (q : Int)) Tryd.underlying3 (HW2.out) rfl hF.1 hF.2.1 (hK _ _ (NewT.refl _) rfl))
      · exact fun a wx hT hF K hK => rely_wp rfl (opr_move (.inl rfl) (hK _ _ (NewT.refl _) hF.1))
      · exact fun a wx hT hF K hK => rely_wp rfl (opr_nilc rfl hF.1 (hK _ _ (NewT.refl _) rfl))
      · exact fun a wx hT hF K hK => rely_wp rfl (opr_fldN1 rfl hF.1 (hK _ _ (NewT.refl _) rfl))
      · exact fun a wx hT hF K hK => rely_wp rfl (opr_ldI (hT.row HR2.out) (by decide) rfl rfl hF.1 (hK _ _ (NewT.refl _) rfl))
      · intro a wx hT hF K hK
        obtain ⟨f47, f53, f57, _⟩ := hF
        have f47 : a.tmps.getD 47 undef = v := f47
        have f53 : a.tmps.getD 53 undef = .int .i64 ((q : Int)) := f53
        have f57 : a.tmps.getD 57 undef = .int .i64 (((q + nn : Nat) : Int)) := f57
        refine rely_wp rfl ?_
        exact opr_midB (k := q) (m := nn) HQN.out rfl (by omega) rfl (by rw [eval_tmp, f47]; exact RdV.less (L' := []) (hT.rd HS2.out) (by simp)) f53 f57 (fun v hv => hK v _ (NewT.refl _) hv)
      · intro wx hT
        intro u43 h; have g43 := h (by simp); clear h; replace g43 := show (svOB w2.heap.size []).pred u43 wx from g43
        iterate 14 (intro u h; obtain rfl := Eq.symm (h (by simp)); clear h)
        intro u58 h; have g58 := h (by simp); clear h; replace g58 := show (svRd (List.take nn (List.drop q S))).pred u58 wx from g58
        refine relyEnd_nil rfl ?_
        simp only [Act.put, List.setIfInBounds_toArray, List.set_cons_zero, List.set_cons_succ]
        refine wpList_plain rfl (fun K hK => ?_)
        obtain ⟨v9, w9, hrun, hO9, hG9, _⟩ := run_appB_two (L := []) (show OwnB _ _ _ _ from g43) g58 (by rw [List.length_take]; have := HQN.out; have := Hl.out; simp; omega) hT.out.size 33
        refine opr_append rfl rfl rfl hrun (hK _ _ ?_)
        clear hK K
        simp only [Act.put, List.setIfInBounds_toArray, List.set_cons_zero, List.set_cons_succ]
        refine wpList_plain rfl (fun K hK => ?_)
        refine opr_move (.inr rfl) (hK _ _ ?_)
        clear hK K
        refine wpList_end rfl ?_
        simp only [Act.put, List.setIfInBounds_toArray, List.set_cons_zero, List.set_cons_succ]
        go_simp
        go_wp2
        go_ret
        have hN9 : NewT w2 w9 := NewT.of (hT.out.grown hG9 hT.out.size (fun k hk => ((show OwnB _ _ _ _ from g43).lt k hk).1))
        have hgw2 : g < w2.heap.size := Nat.lt_of_lt_of_le hgl T3.out.below.size
        have hw2 := T3.out.below.size
        rw [List.nil_append] at hO9
        rw [← HG2.out]
        refine ⟨_, rfl, RT.trans _ _ _ T3.out (RT.new hgw2 hN9), ⟨_, hN9.row HR2.out⟩, fun L hL => (OwnB.fresh hO9).rdL fun k hk => by have := hL k hk; omega⟩
end Go.Proofs.YtbejolbknimmmaaDoor
/- Slices of slices of bytes that read as lists of texts: parts, elements. -/
namespace Go.Proofs.YtbejolbknimmmaaDoor
open Go Go.RowKit
set_option maxRecDepth 8000
set_option linter.all false
theorem parts_form {w : World} {v : Value} {ls : List (List UInt8)} (h : Parts w v ls) : ∃ A c, v = .slice A ls.length c ∧ ls.length ≤ c := by
  obtain ⟨ps, ⟨A, c, hv, h1, _⟩, rfl⟩ := h
  exact ⟨A, c, by rw [hv, List.length_map], by rw [List.length_map]; exact h1⟩
theorem parts_none (w : World) : Parts w (.slice none 0 0) [] := ⟨[], ⟨none, 0, rfl, by simp, by unfold maxLen; omega, fun h => absurd h (by simp), fun x hx => by simp at hx⟩, rfl⟩
theorem parts_take {w : World} {A : Option Addr} {c n k : Nat} {ls : List (List UInt8)} (h : Parts w (.slice A n c) ls) (hk : k ≤ ls.length) : Parts w (.slice A k c) (ls.take k) := by
  obtain ⟨ps, ⟨A', c', hv, h1, h2, h3, h4⟩, rfl⟩ := h
  cases hv
  rw [List.length_map] at hk
  have hl : (ps.take k).length = k := by rw [List.length_take]; omega
  refine ⟨ps.take k, ⟨A, c, by rw [hl], by omega, h2, fun h0 => ?_, fun x hx => h4 x (List.mem_of_mem_take hx)⟩, by rw [List.map_take]⟩
  rw [hl] at h0
  obtain ⟨b, o, hA, hb, hc⟩ := h3 (by omega)
  refine ⟨b, o, hA, hb, fun i x hx => hc i x ?_⟩
  rw [List.getElem?_take] at hx
  split at hx
  · exact hx
  · cases hx
theorem parts_drop {w : World} {A : Option Addr} {c n k : Nat} {ls : List (List UInt8)} (h : Parts w (.slice A n c) ls) (hk : k ≤ ls.length) : Parts w (.slice (if c = k then A else A.map (·.add k)) (n - k) (c - k)) (ls.drop k) := by
  obtain ⟨ps, ⟨A', c', hv, h1, h2, h3, h4⟩, rfl⟩ := h
  cases hv
  rw [List.length_map] at hk
  have hl : (ps.drop k).length = ps.length - k := by simp
  refine ⟨ps.drop k, ⟨_, c - k, by rw [hl], by omega, by omega, fun h0 => ?_, fun x hx => h4 x (List.mem_of_mem_drop hx)⟩, by rw [List.map_drop]⟩
  rw [hl] at h0
  obtain ⟨b, o, rfl, hb, hc⟩ := h3 (by omega)
  refine ⟨b, o + k, by rw [if_neg (by omega)]; simp [Addr.add_mid], hb, fun i x hx => ?_⟩
  have := hc (k + i) x (by simpa using hx)
  rw [show o + k + i = o + (k + i) by omega]
  exact this
theorem run_size_b (w : World) : (sizeOf 33).run Tryd.prog w = .ok 1 w := by
  have hs : (Tryd.prog.info? 33).map (·.size) = some 1 := by kernel_rfl
  cases hq : Tryd.prog.info? 33 with
  | none => simp [hq] at hs
  | some i => simp [hq] at hs; simp [sizeOf, typeInfo, hq, hs]
/-- An element's place: where a slice of bytes lies that reads as l. -/
def svPT (l : List UInt8) : SV NewT := ⟨fun v w => ∃ b off u, v = .pointer (some ⟨b, off, none⟩) ∧ w.cell? ⟨b, off, none⟩ = some u ∧ RdV w [] u l, fun _ w w' h hT => by
  obtain ⟨b, off, u, hv, hc, hr⟩ := h
  exact ⟨b, off, u, hv, (hT.out.cell (p := ⟨b, off, none⟩) (World.block_lt_of_cell? _ _ hc)).trans hc, hT.rd hr⟩⟩
section
variable {a : Act} {w : World} {o : Oper} {K : Act → World → Prop} {Q : Exit → Act → World → Prop} {x y : Operand} {ls : List (List UInt8)} {k : Nat} {n : Int}
theorem run_toT {A : Option Addr} {n c k : Nat} (w : World) (hk : k ≤ n) (hn : n ≤ c) : (Instr.slice 26 (.slice A n c) none (some (.int .i64 (k : Int))) none).run Tryd.prog w = .ok (.slice A k c) w := by
  have h1 : k ≤ c := by omega
  have e : A.map (fun a => a.add 0) = A := by cases A <;> simp [Addr.add_zero']
  by_cases hc0 : c = 0
  · obtain rfl : k = 0 := by omega
    subst hc0; simp [Instr.slice, run_underlying Tryd.underlying26, Instr.sliceBounds, Instr.sliceBound, asIntOf, run_size_b, h1]
  · simp [Instr.slice, run_underlying Tryd.underlying26, Instr.sliceBounds, Instr.sliceBound, asIntOf, run_size_b, h1, hc0, e]
theorem run_fromT {A : Option Addr} {n c k : Nat} (w : World) (hk : k ≤ n) : (Instr.slice 26 (.slice A n c) (some (.int .i64 (k : Int))) none none).run Tryd.prog w = .ok (.slice (if c = k then A else A.map (·.add k)) (n - k) (c - k)) w := by
  have h1 : k ≤ n := hk
  by_cases hc : c = k
  · simp [Instr.slice, run_underlying Tryd.underlying26, Instr.sliceBounds, Instr.sliceBound, asIntOf, run_size_b, h1, hc]
  · simp [Instr.slice, run_underlying Tryd.underlying26, Instr.sliceBounds, Instr.sliceBound, asIntOf, run_size_b, h1, hc]
/-- 'l[:k]'. -/
theorem opr_toT (hk : k ≤ ls.length) (hn : n = (k : Int)) (ho : o.op = .slice 26 x none (some y) none) (hx : Parts w (a.eval x) ls) (hy : a.eval y = .int .i64 n) (h : ∀ v, Parts w v (ls.take k) → K (a.put o.dst v) w) : o.wp Tryd.prog a w K Q := by
  subst hn
  obtain ⟨dst, op, type, pos, after, guard⟩ := o
  simp only at ho
  subst ho
  obtain ⟨A, c, hv, hc⟩ := parts_form hx
  rw [hv] at hx
  exact opr_val (s := Instr.sliceAt 26 (a.eval x) none (some (a.eval y)) none) (by simp [execOp]) (by rw [hv, hy]; simp [Instr.sliceAt, run_underlying Tryd.underlying26]; exact run_toT w hk hc) (h _ (parts_take hx hk))
/-- 'l[k:]'. -/
theorem opr_fromT (hk : k ≤ ls.length) (hn : n = (k : Int)) (ho : o.op = .slice 26 x (some y) none none) (hx : Parts w (a.eval x) ls) (hy : a.eval y = .int .i64 n) (h : ∀ v, Parts w v (ls.drop k) → K (a.put o.dst v) w) : o.wp Tryd.prog a w K Q := by
  subst hn
  obtain ⟨dst, op, type, pos, after, guard⟩ := o
  simp only at ho
  subst ho
  obtain ⟨A, c, hv, hc⟩ := parts_form hx
  rw [hv] at hx
  exact opr_val (s := Instr.sliceAt 26 (a.eval x) (some (a.eval y)) none none) (by simp [execOp]) (by rw [hv, hy]; simp [Instr.sliceAt, run_underlying Tryd.underlying26]; exact run_fromT w hk) (h _ (parts_drop hx hk))
theorem parts_at {w : World} {v : Value} {i : Nat} {l : List UInt8} (h : Parts w v ls) (hi : ls[i]? = some l) : ∃ b off c u, v = .slice (some ⟨b, off, none⟩) ls.length c ∧ w.cell? ⟨b, off + i, none⟩ = some u ∧ RdV w [] u l := by
  obtain ⟨ps, ⟨A, c, hv, h1, h2, h3, h4⟩, rfl⟩ := h
  have hl : i < ps.length := by have := (List.getElem?_eq_some_iff.1 hi).1; simpa using this
  obtain ⟨b, off, rfl, _, hc⟩ := h3 (by omega)
  have hx : ps[i]? = some ps[i] := List.getElem?_eq_getElem hl
  have e : ps[i].2 = l := by rw [List.getElem?_map, hx] at hi; simpa using hi
  exact ⟨b, off, c, ps[i].1, by rw [hv, List.length_map], hc i _ hx, e ▸ h4 _ (List.getElem_mem hl)⟩
/-- 'l[i]': its place, and what lies there. -/
theorem opr_idxT {i : Nat} {l : List UInt8} (hi : ls[i]? = some l) (hn : n = (i : Int)) (ho : o.op = .indexAddr 26 x y) (hx : Parts w (a.eval x) ls) (hy : a.eval y = .int .i64 n) (h : ∀ v, (svPT l).pred v w → K (a.put o.dst v) w) : o.wp Tryd.prog a w K Q := by
  subst hn
  obtain ⟨dst, op, type, pos, after, guard⟩ := o
  simp only at ho
  subst ho
  obtain ⟨b, off, c, u, hv, hc, hr⟩ := parts_at hx hi
  have hl : i < ls.length := (List.getElem?_eq_some_iff.1 hi).1
  exact opr_val (s := Instr.indexAt 26 (a.eval x) (a.eval y)) (v := .pointer (some ⟨b, off + i, none⟩)) (w' := w) rfl (by rw [hv, hy]; simp [Instr.indexAt, asIntOf, run_underlying Tryd.underlying26, run_size_b, hl, Addr.add_mid]) (h _ ⟨b, off + i, u, rfl, hc, hr⟩)
theorem opr_ldT {l : List UInt8} (ho : o.op = .load 33 x) (hx : (svPT l).pred (a.eval x) w) (h : ∀ u, RdV w [] u l → K (a.put o.dst u) w) : o.wp Tryd.prog a w K Q := by
  obtain ⟨b, off, u, hv, hc, hr⟩ := hx
  exact opr_ld1 Tryd.underlying33 rfl ho hv hc (h u hr)
end
end Go.Proofs.YtbejolbknimmmaaDoor
/- The reference's Bytes, at whatever lists. -/
namespace Go.Proofs.YtbejolbknimmmaaDoor
open Go Go.RowKit
set_option maxRecDepth 8000
set_option linter.all false
theorem rd_cells {W : World} {A : Option Addr} {n c : Nat} {l : List UInt8} (h : RdV W [] (.slice A n c) l) : l.length = n ∧ ∀ i, i < n → ∃ b o, A = some ⟨b, o, none⟩ ∧ ∀ j, j < n → W.cell? ⟨b, o + j, none⟩ = some (.int .u8 (bN (bAt l j))) := by
  obtain ⟨A', c', hv, _, _, hc⟩ := h
  cases hv
  refine ⟨rfl, fun i hi => ?_⟩
  obtain ⟨b, o, h1, _, h2⟩ := hc (by omega)
  exact ⟨b, o, h1, h2⟩
/-- The same up to a place. -/
def sameTo (l m : List UInt8) (k : Nat) : Prop := ∀ i, i < k → bAt l i = bAt m i
theorem eq_of_sameTo {l m : List UInt8} (hl : l.length = m.length) (h : sameTo l m l.length) : l = m := by
  apply List.ext_getElem hl
  intro i h1 h2
  have := h i h1
  simpa [bAt, h1, h2] using this
set_option maxHeartbeats 1000000 in
theorem Bytes_any (A1 A2 : Option Addr) (n1 c1 n2 c2 : Nat) (l m : List UInt8) (w : World) (h1 : RdV w [] (.slice A1 n1 c1) l) (h2 : RdV w [] (.slice A2 n2 c2) m) (hn1 : n1 ≤ 1000000) (hn2 : n2 ≤ 1000000) :
    Cv 24 #[.slice A1 n1 c1, .slice A2 n2 c2] w (.eq (.bool (decide (l = m)))) := by
  unfold Cv
  obtain ⟨e1, k1⟩ := rd_cells h1
  obtain ⟨e2, k2⟩ := rd_cells h2
  have E1 := Lib.hid e1
  have E2 := Lib.hid e2
  have H1 := Lib.hid k1
  have H2 := Lib.hid k2
  clear h1 h2 e1 e2 k1 k2
  by_cases hne : n1 = n2
  · subst hne
    go_enter Tryd.func24, Tryd.ntmps24
    go_wp2
    go_loopw [5] (fun i wr => ∃ k : Nat, k ≤ n1 ∧ i = .int .i64 k ∧ Hid (sameTo l m k) ∧ Hid (∀ a, wr.cell? a = w.cell? a) ∧ Below w.heap.size w wr) (fun i _ => n1 - (intOf i).toNat)
    case atStart => exact ⟨0, by omega, rfl, Lib.hid (fun i hi => by omega), Lib.hid (fun _ => rfl), Below.refl _ _⟩
    case round =>
      obtain ⟨k, hk, rfl, Hs, Hcell, qB⟩ := hrel
      by_cases hlt : k < n1
      · obtain ⟨b1, o1, rfl, j1⟩ := H1.out k hlt
        obtain ⟨b2, o2, rfl, j2⟩ := H2.out k hlt
        have c1' := (Hcell.out ⟨b1, o1 + k, none⟩).trans (j1 k hlt)
        have c2' := (Hcell.out ⟨b2, o2 + k, none⟩).trans (j2 k hlt)
        have it : (k : Int) < (n1 : Int) := by omega
        clear j1 j2
        by_cases hb : bAt l k = bAt m k
        · have hq : (bN (bAt l k) != bN (bAt m k)) = false := by rw [hb]; simp
          have Hb := Lib.hid hb
          clear hb
          generalize hx : bN (bAt l k) = x at c1' hq
          generalize hy : bN (bAt m k) = y at c2' hq
          clear hx hy
          go_wp2
          refine wp_region_still_lit (by kernel_rfl) (by kernel_rfl) ?_
          repeat (refine wpStill_step (fun K hK => ?_); go_simp; (try go_bits); refine hK _ ?_; clear hK K)
          refine wpStill_nil ?_
          go_wp2
          go_roundw
          case rel => exact ⟨k + 1, by omega, by go_num, Lib.hid (fun i hi => by
            rcases Nat.lt_succ_iff_lt_or_eq.1 hi with h | rfl
            · exact Hs.out i h
            · exact Hb.out), Lib.hid (fun a => Hcell.out a), qB.drew⟩
          case measure => simp [intOf]; omega
        · have hq : (bN (bAt l k) != bN (bAt m k)) = true := by simpa using fun h => hb (bN_inj h)
          have Hb := Lib.hid hb
          clear hb
          generalize hx : bN (bAt l k) = x at c1' hq
          generalize hy : bN (bAt m k) = y at c2' hq
          clear hx hy
          go_wp2
          refine wp_region_still_lit (by kernel_rfl) (by kernel_rfl) ?_
          repeat (refine wpStill_step (fun K hK => ?_); go_simp; (try go_bits); refine hK _ ?_; clear hK K)
          refine wpStill_nil ?_
          go_wp2
          go_ret
          refine ⟨_, rfl, qB.drew, ?_⟩
          show Value.bool false = _
          congr 1
          exact (decide_eq_false fun h => Hb.out (by rw [h])).symm
      · obtain rfl : k = n1 := by omega
        go_wp2
        go_ret
        refine ⟨_, rfl, qB, ?_⟩
        show Value.bool true = _
        congr 1
        exact (decide_eq_true (eq_of_sameTo (E1.out.trans E2.out.symm) (by rw [E1.out]; exact Hs.out))).symm
  · have hq : ((n1 : Int) != (n2 : Int)) = true := by simp; omega
    have hq2 : (n1 != n2) = true := by simpa using hne
    go_enter Tryd.func24, Tryd.ntmps24
    go_wp2
    go_ret
    refine ⟨_, rfl, Below.refl _ _, ?_⟩
    show Value.bool false = _
    congr 1
    exact (decide_eq_false fun h => hne (by rw [← E1.out, ← E2.out, h])).symm
theorem Bytes_cv (v1 v2 : Value) (l m : List UInt8) (w : World) (h1 : RdV w [] v1 l) (h2 : RdV w [] v2 m) (hl : l.length ≤ 1000000) (hm : m.length ≤ 1000000) :
    Cv 24 #[v1, v2] w (.eq (.bool (decide (l = m)))) := by
  have g1 := h1
  have g2 := h2
  obtain ⟨A1, c1, rfl, _⟩ := g1
  obtain ⟨A2, c2, rfl, _⟩ := g2
  exact Bytes_any A1 A2 _ c1 _ c2 l m w h1 h2 hl hm
end Go.Proofs.YtbejolbknimmmaaDoor
/- The document's answer for layer 9: are two lists the same? -/
namespace Go.Proofs.YtbejolbknimmmaaDoor
open Go Go.RowKit
set_option maxRecDepth 8000
set_option linter.all false
/-- A list whose texts are short enough. -/
structure Fine9 (x : List (List UInt8)) : Prop where
  len : x.length ≤ 900000
  each : ∀ t ∈ x, t.length ≤ 900000
set_option maxHeartbeats 1000000 in
theorem RSame9_cv (va vb : Value) (x y : List (List UInt8)) (w : World) (ha : Parts w va x) (hb : Parts w vb y) (hx : Fine9 x) (hy : Fine9 y) : Cv 20 #[va, vb] w (.eq (.bool (decide (x = y)))) := by
  unfold Cv
  have HA0 := Lib.hid ha
  have HB0 := Lib.hid hb
  have HFX := Lib.hid hx
  have HFY := Lib.hid hy
  obtain ⟨A1, c1, e1', q1⟩ := parts_form ha
  obtain ⟨A2, c2, e2', q2⟩ := parts_form hb
  have p1 := hx.len
  subst e1' e2'
  clear ha hb q1 q2 hx hy
  by_cases hne : x.length = y.length
  rotate_left
  · have hd : decide (x = y) = false := decide_eq_false fun h => hne (by rw [h])
    have ht : ((x.length : Int) != (y.length : Int)) = true := by simp; omega
    rw [hd]
    go_enter Tryd.func20, Tryd.ntmps20
    go_wp2
    go_ret
    exact ⟨_, rfl, NewT.refl _, rfl⟩
  rw [← hne] at HB0 ⊢
  have Hne := Lib.hid hne
  clear hne
  go_enter Tryd.func20, Tryd.ntmps20
  go_wp2
  go_loopw [5] (fun i wr => ∃ k : Nat, k ≤ x.length ∧ i = .int .i64 (k : Int) ∧ Hid (∀ i, i < k → x[i]? = y[i]?) ∧ NewT w wr) (fun i _ => x.length - (intOf i).toNat)
  case atStart => exact ⟨0, by omega, rfl, Lib.hid (fun i hi => by omega), NewT.refl _⟩
  case round =>
    obtain ⟨k, hk, rfl, Hs, hN⟩ := hrel
    have HN := Lib.hid hN
    have HA := Lib.hid (hN.partsL HA0.out)
    have HB := Lib.hid (hN.partsL HB0.out)
    clear hN
    by_cases hlt : k < x.length
    · have it : (k : Int) < (x.length : Int) := by omega
      obtain ⟨s, hx⟩ : ∃ d, x[k]? = some d := ⟨_, List.getElem?_eq_getElem (by omega)⟩
      obtain ⟨t, hy⟩ : ∃ d, y[k]? = some d := ⟨_, List.getElem?_eq_getElem (by have := Hne.out; omega)⟩
      have HX := Lib.hid hx
      have HY := Lib.hid hy
      have HSN := Lib.hid (HFX.out.each s (List.mem_of_getElem? hx))
      have HTN := Lib.hid (HFY.out.each t (List.mem_of_getElem? hy))
      obtain ⟨b, hq⟩ : ∃ b, decide (s = t) = b := ⟨_, rfl⟩
      have HQ := Lib.hid hq
      clear hx hy hq
      go_upto_region 6 with fail
      obtain ⟨va, ea⟩ : ∃ v, Value.slice A1 x.length c1 = v := ⟨_, rfl⟩
      obtain ⟨vb, eb⟩ : ∃ v, Value.slice A2 x.length c2 = v := ⟨_, rfl⟩
      rw [ea] at HA
      rw [eb] at HB
      rw [ea, eb]
      refine wp_region_rely (NewT) [SV.eq (va), SV.eq (.int .i64 ((k : Int))), svPT (s), svRd (s), SV.eq (vb), SV.eq (.int .i64 ((k : Int))), svPT (t), svRd (t), SV.eq (.bool (b))] [([(0, none)], none), ([(5, none)], none), ([(17, some 0), (18, some 1)], none), ([(19, some 2)], none), ([(1, none)], none), ([(5, none)], none), ([(21, some 4), (22, some 5)], none), ([(23, some 6)], none), ([(20, some 3), (24, some 7)], none)] 27 rfl (by kernel_rfl) rfl (by kernel_rfl) (by kernel_rfl) rfl NewT.trans (NewT.drew _) (Nat.le_of_ble_eq_true rfl) ⟨?_, ?_, ?_, ?_, ?_, ?_, ?_, ?_, ?_, trivial⟩ ?_
      · exact fun a wx hT hF K hK => rely_wp rfl (opr_move (.inl rfl) (hK _ _ (NewT.refl _) hF.1))
      · exact fun a wx hT hF K hK => rely_wp rfl (opr_move (.inl rfl) (hK _ _ (NewT.refl _) hF.1))
      · intro a wx hT hF K hK
        obtain ⟨f17, f18, _⟩ := hF
        have f17 : a.tmps.getD 17 undef = va := f17
        have f18 : a.tmps.getD 18 undef = .int .i64 ((k : Int)) := f18
        refine rely_wp rfl ?_
        exact opr_idxT (i := k) (l := s) (HX.out) (rfl) rfl (by rw [eval_tmp, f17]; exact (hT.partsL HA.out)) f18 (fun v hv => hK v _ (NewT.refl _) hv)
      · exact fun a wx hT hF K hK => rely_wp rfl (opr_ldT rfl hF.1 (fun u hu => hK u _ (NewT.refl _) hu))
      · exact fun a wx hT hF K hK => rely_wp rfl (opr_move (.inl rfl) (hK _ _ (NewT.refl _) hF.1))
      · exact fun a wx hT hF K hK => rely_wp rfl (opr_move (.inl rfl) (hK _ _ (NewT.refl _) hF.1))
      · intro a wx hT hF K hK
        obtain ⟨f21, f22, _⟩ := hF
        have f21 : a.tmps.getD 21 undef = vb := f21
        have f22 : a.tmps.getD 22 undef = .int .i64 ((k : Int)) := f22
        refine rely_wp rfl ?_
        exact opr_idxT (i := k) (l := t) (HY.out) (rfl) rfl (by rw [eval_tmp, f21]; exact (hT.partsL HB.out)) f22 (fun v hv => hK v _ (NewT.refl _) hv)
      · exact fun a wx hT hF K hK => rely_wp rfl (opr_ldT rfl hF.1 (fun u hu => hK u _ (NewT.refl _) hu))
      · exact fun a wx hT hF K hK => rely_wp rfl (opr_cv (by rw [← HQ.out]; exact Bytes_cv _ _ s t wx hF.1 hF.2.1 (by have := HSN.out; omega) (by have := HTN.out; omega)) rfl Tryd.func24 (by kernel_rfl) (by kernel_rfl) (evs2 rfl rfl) hK)
      · intro wc kc
        iterate 2 (intro u h; obtain rfl := Eq.symm (h (by simp)); clear h)
        iterate 2 (intro _ _)
        iterate 2 (intro u h; obtain rfl := Eq.symm (h (by simp)); clear h)
        iterate 2 (intro _ _)
        intro u h; obtain rfl := Eq.symm (h (by simp)); clear h
        refine relyEnd_nil rfl ?_
        simp only [Act.put, List.setIfInBounds_toArray, List.set_cons_zero, List.set_cons_succ]
        refine opr_not rfl rfl ?_
        go_simp
        replace HN := Lib.hid (NewT.trans _ _ _ HN.out kc)
        clear kc HA HB
        cases b
        · go_wp2
          go_ret
          exact ⟨_, rfl, HN.out, by rw [decide_eq_false (fun e : x = y => of_decide_eq_false HQ.out (by have h1 := HX.out; rw [e, HY.out] at h1; exact (Option.some.inj h1).symm))]; rfl⟩
        · subst ea eb
          go_wp2
          go_roundw
          case rel => exact ⟨k + 1, by omega, by go_num, Lib.hid (fun i hi => by
            rcases Nat.lt_succ_iff_lt_or_eq.1 hi with h1 | rfl
            · exact Hs.out i h1
            · rw [HX.out, HY.out, of_decide_eq_true HQ.out]), HN.out⟩
          case measure => simp [intOf]; omega
    · obtain rfl : k = x.length := by omega
      go_wp2
      go_ret
      have e : x = y := by
        apply List.ext_getElem? fun i => ?_
        by_cases hi : i < x.length
        · exact Hs.out i hi
        · rw [List.getElem?_eq_none (by omega), List.getElem?_eq_none (by have := Hne.out; omega)]
      exact ⟨_, rfl, HN.out, by rw [decide_eq_true e]; rfl⟩
end Go.Proofs.YtbejolbknimmmaaDoor
/- Package sha, more: blocks of a text, one by one. -/
namespace Go.Proofs.YtbejolbknimmmaaDoor
open Go.RowKit
set_option maxRecDepth 8000
set_option linter.all false
attribute [local go_sem] uF_at
set_option maxHeartbeats 1000000 in
/-- A block that hasn't 64 bytes turns nothing. -/
theorem Turn_no (s : Nat → BitVec 32) (A : Option Addr) (n cap : Nat) (hn : n ≠ 64) (w : World) :
    Calls Tryd.prog 69 #[.agg (rowA 8 (uF s)), .slice A n cap] w fun e w' => e = .returned (.agg (rowA 8 (uF s))) ∧ Below w.heap.size w w' := by
  have hn2 : ((n : Int) == 64) = false := by simp; omega
  have r0 := (rowIs_box w 92 8 (uF s)).alloc (.cells (rowA 8 fun _ => .int .u32 0) 92)
  have r1 := rowIs_box (w.alloc (.cells (rowA 8 (uF s)) 92)) 92 8 fun _ => .int .u32 0
  have hB : Below w.heap.size w ((w.alloc (.cells (rowA 8 (uF s)) 92)).alloc (.cells (rowA 8 fun _ => .int .u32 0) 92)) :=
    ((Below.refl _ w).alloc (Nat.le_refl _) _).alloc (by simp) _
  rw [World.size_alloc] at r1
  have hR := rangeAt_row r0
  go_enter Tryd.func69, Tryd.ntmps69
  go_wp2_with (first
    | (refine wpList_load_mid rfl 92 (.tmp 2) rfl w.heap.size 0 rfl (rowA 8 (uF s)).toList _ hR Tryd.underlying92 rfl (by rw [rowA_toList]; simpa using info23) ?_)
    | (refine wpList_store_mid rfl 92 (.tmp 4) (.tmp 10) rfl (w.heap.size + 1) 0 (rowA 8 (uF s)) rfl rfl (by rw [rowA_size]; exact there_row r1) (by rw [rowA_size]; exact info23) (rowA_one _ _ fun _ => rfl) ?_))
  exact bodyPost_ret (results_row rfl _ rfl (rowIs_setAll r1 (uF s)) Tryd.underlying92 info23) rfl ⟨rfl, below_setCells _ (by omega) _ _ _ hB⟩
theorem word_back (x : BitVec 32) : (((((x >>> 24).setWidth 8).setWidth 32 <<< 24) ||| (((x >>> 16).setWidth 8).setWidth 32 <<< 16)) ||| (((x >>> 8).setWidth 8).setWidth 32 <<< 8)) ||| ((x >>> 0).setWidth 8).setWidth 32 = x := by
  apply BitVec.eq_of_getLsbD_eq
  intro i hi
  simp only [BitVec.getLsbD_or, BitVec.getLsbD_shiftLeft, BitVec.getLsbD_setWidth, BitVec.getLsbD_ushiftRight]
  by_cases h1 : i < 8
  · simp [h1, show i < 16 by omega, show i < 24 by omega, hi]
  · by_cases h2 : i < 16
    · simp [h1, h2, show i < 24 by omega, hi, show i - 8 < 8 by omega, show i - 8 < 32 by omega, show 8 + (i - 8) = i by omega]
    · by_cases h3 : i < 24
      · simp [h1, h2, h3, hi, show i - 16 < 8 by omega, show ¬ i - 8 < 8 by omega, show i - 16 < 32 by omega, show 16 + (i - 16) = i by omega]
      · simp [h1, h2, h3, hi, show i - 24 < 8 by omega, show ¬ i - 8 < 8 by omega, show ¬ i - 16 < 8 by omega, show i - 24 < 32 by omega, show 24 + (i - 24) = i by omega]
theorem dig_word (S : Nat → BitVec 32) (i : Nat) :
    ((((dig S (4 * i)).toBitVec.setWidth 32 <<< 24) ||| ((dig S (4 * i + 1)).toBitVec.setWidth 32 <<< 16)) ||| ((dig S (4 * i + 2)).toBitVec.setWidth 32 <<< 8)) ||| (dig S (4 * i + 3)).toBitVec.setWidth 32 = S i := by
  unfold dig
  rw [show 4 * i / 4 = i by omega, show (4 * i + 1) / 4 = i by omega, show (4 * i + 2) / 4 = i by omega, show (4 * i + 3) / 4 = i by omega,
    show 4 * i % 4 = 0 by omega, show (4 * i + 1) % 4 = 1 by omega, show (4 * i + 2) % 4 = 2 by omega, show (4 * i + 3) % 4 = 3 by omega]
  exact word_back (S i)
theorem slice_blk (b o n cap j : Nat) (h : j + 64 ≤ cap) (w : World) : (Instr.slice 33 (.slice (some ⟨b, o, none⟩) n cap) (some (.int .i64 (j : Int))) (some (.int .i64 ((j : Int) + 64))) none).run Tryd.prog w = .ok (.slice (some ⟨b, o + j, none⟩) 64 (cap - j)) w := by
  have hsz : (sizeOf 5).run Tryd.prog w = .ok 1 w := by
    obtain ⟨i0, hi, _, hz1, _⟩ := info_parts info5
    simp [sizeOf, typeInfo, hi, hz1]
  have h3 : (0 : Int) ≤ (j : Int) + 64 ∧ (j : Int) + 64 ≤ (cap : Int) := by omega
  have h4 : j ≤ ((j : Int) + 64).toNat := by omega
  have h6 : ((j : Int) + 64).toNat - j = 64 := by omega
  have h5 : cap ≠ j := by omega
  simp [Instr.slice, run_underlying Tryd.underlying33, Instr.sliceBounds, Instr.sliceBound, asIntOf, hsz, h3, h4, h5, h6, Addr.add_mid]
/-- A text's block. -/
def blk (c : List UInt8) (i : Nat) : List UInt8 := (c.drop (64 * i)).take 64
/-- The state behind the first blocks. -/
def sB (c : List UInt8) : Nat → Nat → BitVec 32
  | 0 => Fc
  | k + 1 => turnF Kc (sB c k) (blk c k)
theorem bAt_blk (c : List UInt8) (k i : Nat) (h : i < 64) : bAt (blk c k) i = bAt c (64 * k + i) := by
  simp [bAt, blk, h, List.getElem?_drop]
theorem sB_fold (c : List UInt8) (k : Nat) : ((List.range k).map (blk c)).foldl (turnF Kc) Fc = sB c k := by
  induction k with
  | zero => rfl
  | succ k ih => rw [List.range_succ, List.map_append, List.foldl_append, ih]; rfl
theorem sha_blocks (c : List UInt8) (m : Nat) (h : c.length = 64 * m) : shaL Kc Fc c = dig (turnF Kc (sB c m) (fillB c.length)) := by
  have hf : (fillB c.length).length = 64 := by rw [fillB_length, h]; simp
  obtain ⟨_, h2⟩ := rem_full c (fillB c.length) (by rw [hf]; omega)
  have hr : rem c = [] := by unfold rem; rw [show 64 * (c.length / 64) = c.length by omega]; simp
  rw [shaL, h2, hr, List.nil_append, List.foldl_append]
  have : cks c = (List.range m).map (blk c) := by unfold cks; rw [h, show 64 * m / 64 = m by omega]; rfl
  rw [this, sB_fold]; rfl
theorem info22s : (Tryd.prog.info? 91).map (·.size) = some 1 := by kernel_rfl
theorem equal_state (w : World) (d : Nat → BitVec 32) : (Op.equalIn 10000 92 (.agg (rowA 8 (uF d))) (.agg (rowA 8 (uF d)))).run Tryd.prog w = .ok true w :=
  equalIn_same w 9998 92 91 8 .u32 Tryd.underlying92 Tryd.underlying91 info22s (fun i => uN (d i))
theorem equal_state2 (w : World) (d : Nat → BitVec 32) : (Op.equalIn 10000 92 (.agg (rowA 8 (uF d))) (.agg #[.int .u32 (uN (d 0)), .int .u32 (uN (d 1)), .int .u32 (uN (d 2)), .int .u32 (uN (d 3)), .int .u32 (uN (d 4)), .int .u32 (uN (d 5)), .int .u32 (uN (d 6)), .int .u32 (uN (d 7))])).run Tryd.prog w = .ok true w := equal_state w d
theorem u32_mul16m (x : BitVec 32) : IntKind.u32.wrap (uN x * (16777216 : Int)) = uN (x <<< 24) := u32_shl x 24
theorem u32_mul65k (x : BitVec 32) : IntKind.u32.wrap (uN x * (65536 : Int)) = uN (x <<< 16) := u32_shl x 16
theorem Sum_new1 (v : Value) (l : List UInt8) (D : Nat → UInt8) (W : World) (hT : Tables W) (h : RdV W [] v l) (ht : l.length ≤ 4611686018427387904) (hD : shaL Kc Fc l = D) :
    Calls Tryd.prog 58 #[.slice (some ⟨W.heap.size, 0, none⟩) 1 1] (W.alloc (.cells #[v] 33)) fun e w' => e = .returned (.agg (rowA 32 (bF D))) ∧ Below W.heap.size W w' := by
  have hB := (Below.refl _ W).alloc (Nat.le_refl _) (.cells #[v] 33)
  refine (Sum_c _ [(v, l)] _ (hT.below hB) (parts_new [(v, l)] 33 (by simp) (by simp) (by simpa using h)) (by simpa [total] using ht)).mono ?_
  rintro e w' ⟨rfl, hb⟩
  rw [show flat [(v, l)] = l by simp [flat], hD]
  exact ⟨rfl, hB.trans (hb.mono hB.size)⟩
end Go.Proofs.YtbejolbknimmmaaDoor
/- The reference's Turn. -/
namespace Go.Proofs.YtbejolbknimmmaaDoor
open Go.RowKit
set_option maxRecDepth 8000
set_option linter.all false
/-- Numbers of 32 bits in cells of 64. -/
def vF (s : Nat → BitVec 32) : Nat → Value := fun i => .int .u64 (uN (s i))
theorem vF_at (s : Nat → BitVec 32) (i : Nat) : vF s i = .int .u64 (uN (s i)) := rfl
theorem wS_final (l : List UInt8) (n i : Nat) (h : i < 16 + n) (hn : n ≤ 48) : wS l 48 i = wS l n i := by
  obtain ⟨k, hk⟩ : ∃ k, 48 = n + k := ⟨48 - n, by omega⟩
  rw [hk]
  clear hk hn
  induction k with
  | zero => rfl
  | succ k ih => rw [← Nat.add_assoc, wS_old l (n + k) i (by omega), ih]
theorem wS_first (l : List UInt8) (i : Nat) (h : i < 16) : wS l 48 i = wordTo l i 4 := by
  rw [wS_final l 0 i (by omega) (by omega)]; simp [wS, schedL, h]
theorem wS_rec (l : List UInt8) (t : Nat) (h1 : 16 ≤ t) (h2 : t < 64) : wS l 48 t = ss1 (wS l 48 (t - 2)) + wS l 48 (t - 7) + ss0 (wS l 48 (t - 15)) + wS l 48 (t - 16) := by
  obtain ⟨n, rfl⟩ : ∃ n, t = 16 + n := ⟨t - 16, by omega⟩
  rw [wS_final l (n + 1) (16 + n) (by omega) (by omega), wS_new, show 16 + n - 2 = n + 14 by omega, show 16 + n - 7 = n + 9 by omega, show 16 + n - 15 = n + 1 by omega, show 16 + n - 16 = n by omega,
    wS_final l n (n + 14) (by omega) (by omega), wS_final l n (n + 9) (by omega) (by omega), wS_final l n (n + 1) (by omega) (by omega), wS_final l n n (by omega) (by omega)]
theorem word_step (x : BitVec 32) (b : UInt8) (hx : x.toNat < 16777216) : (x <<< 8 ||| b.toBitVec.setWidth 32).toNat = x.toNat * 256 + b.toNat := by
  have hb := b.toNat_lt
  have e1 : (x <<< 8).toNat = x.toNat <<< 8 := by rw [BitVec.toNat_shiftLeft, Nat.mod_eq_of_lt]; rw [Nat.shiftLeft_eq]; omega
  have e2 : (b.toBitVec.setWidth 32).toNat = b.toNat := by rw [BitVec.toNat_setWidth]; show b.toNat % _ = _; omega
  rw [BitVec.toNat_or, e1, e2, ← Nat.shiftLeft_add_eq_or_of_lt (by omega), Nat.shiftLeft_eq]
theorem word_num (l : List UInt8) (t : Nat) : uN (wordTo l t 4) = ((bN (bAt l (4 * t)) * 256 + bN (bAt l (4 * t + 1))) * 256 + bN (bAt l (4 * t + 2))) * 256 + bN (bAt l (4 * t + 3)) := by
  have h0 := (bAt l (4 * t)).toNat_lt
  have h1 := (bAt l (4 * t + 1)).toNat_lt
  have h2 := (bAt l (4 * t + 2)).toNat_lt
  have h3 := (bAt l (4 * t + 3)).toNat_lt
  have e1 : (wordTo l t 1).toNat = (bAt l (4 * t)).toNat := by simp [wordTo]
  have e2 : (wordTo l t 2).toNat = (wordTo l t 1).toNat * 256 + (bAt l (4 * t + 1)).toNat := word_step (wordTo l t 1) _ (by omega)
  have e3 : (wordTo l t 3).toNat = (wordTo l t 2).toNat * 256 + (bAt l (4 * t + 2)).toNat := word_step (wordTo l t 2) _ (by omega)
  have e4 : (wordTo l t 4).toNat = (wordTo l t 3).toNat * 256 + (bAt l (4 * t + 3)).toNat := word_step (wordTo l t 3) _ (by omega)
  unfold uN bN
  omega
/-- The first t numbers of a list, the others 0. -/
def cutT (s : Nat → BitVec 32) (t : Nat) : Nat → BitVec 32 := fun i => if i < t then s i else 0
theorem cutT_at (s : Nat → BitVec 32) (t i : Nat) (h : i < t) : cutT s t i = s i := if_pos h
theorem cutT_set (s : Nat → BitVec 32) (t : Nat) (z : Int) (hz : z = uN (s t)) (i : Nat) : (if i = t then Value.int .u64 z else vF (cutT s t) i) = vF (cutT s (t + 1)) i := by
  subst hz
  simp only [vF, cutT]
  by_cases h : i = t
  · subst h; simp
  · by_cases h2 : i < t
    · rw [if_neg h, if_pos h2, if_pos (by omega)]
    · rw [if_neg h, if_neg h2, if_neg (by omega)]
theorem rowIs_zeros64 (s : Nat → BitVec 32) (w : World) (t : TypeId) (n : Nat) : (w.alloc (.cells (Array.replicate n (.int .u64 0)) t)).rowIs w.heap.size t n (vF (cutT s 0)) := by
  have := World.rowIs_alloc w (Array.replicate n (.int .u64 0)) t (vF (cutT s 0)) (fun i hi => by simp at hi; simp [vF, cutT, hi, uN])
  simpa using this
theorem info47 : (Tryd.prog.info? 109).map (·.size) = some 8 := by kernel_rfl
theorem wrap32_uN (x : BitVec 32) : IntKind.u32.wrap (uN x) = uN x := wrap_uN x

attribute [local go_sem] uF_at
set_option maxRecDepth 20000 in
set_option maxHeartbeats 1000000 in
theorem RTurn_no (s : Nat → BitVec 32) (A : Option Addr) (n cap : Nat) (hn : n ≠ 64) (w : World) :
    Calls Tryd.prog 62 #[.agg (rowA 8 (uF s)), .slice A n cap] w fun e w' => e = .returned (.agg (rowA 8 (uF s))) ∧ Below w.heap.size w w' := by
  have hn2 : ((n : Int) == 64) = false := by simp; omega
  have r0 := (rowIs_box w 92 8 (uF s)).alloc (.cells (rowA 8 fun _ => .int .u32 0) 92)
  have r1 := rowIs_box (w.alloc (.cells (rowA 8 (uF s)) 92)) 92 8 fun _ => .int .u32 0
  have hB : Below w.heap.size w ((w.alloc (.cells (rowA 8 (uF s)) 92)).alloc (.cells (rowA 8 fun _ => .int .u32 0) 92)) :=
    ((Below.refl _ w).alloc (Nat.le_refl _) _).alloc (by simp) _
  rw [World.size_alloc] at r1
  have hR := rangeAt_row r0
  go_enter Tryd.func62, Tryd.ntmps62
  go_wp2_with (first
    | (refine wpList_load_mid rfl 92 (.tmp 2) rfl w.heap.size 0 rfl (rowA 8 (uF s)).toList _ hR Tryd.underlying92 rfl (by rw [rowA_toList]; simpa using info23) ?_)
    | (refine wpList_store_mid rfl 92 (.tmp 4) (.tmp 22) rfl (w.heap.size + 1) 0 (rowA 8 (uF s)) rfl rfl (by rw [rowA_size]; exact there_row r1) (by rw [rowA_size]; exact info23) (rowA_one _ _ fun _ => rfl) ?_))
  exact bodyPost_ret (results_row rfl _ rfl (rowIs_setAll r1 (uF s)) Tryd.underlying92 info23) rfl ⟨rfl, below_setCells _ (by omega) _ _ _ hB⟩
attribute [local go_sem] vF_at wrap64_uN wrap32_uN u64_xor u64_and u64_not u64_add2 u64_add3 u64_add4 u64_add5 mod_t2 mod_t4 mod_t5 tmod_t2 tmod_t4 tmod_t5
def RT1 (s : Nat → BitVec 32) (l : List UInt8) (w : World) (t : Nat) (wr : World) : Prop :=
  wr.rowIs w.heap.size 92 8 (uF s) ∧ wr.rowIs (w.heap.size + 1) 92 8 (fun _ => .int .u32 0) ∧ wr.rowIs (w.heap.size + 1 + 1) 107 64 (vF (cutT (wS l 48) t)) ∧ Below w.heap.size w wr
set_option maxRecDepth 20000 in
set_option maxHeartbeats 4000000 in
theorem RTurn_any (K s : Nat → BitVec 32) (l : List UInt8) (b o cap : Nat) (_ : 64 ≤ cap) (_ : cap ≤ maxLen) (w : World) (hb : b < w.heap.size) (h1 : 1 < w.heap.size)
    (hK : ∀ i, i < 64 → w.cell? ⟨1, i, none⟩ = some (.int .u32 (uN (K i))))
    (hc : ∀ i, i < 64 → w.cell? ⟨b, o + i, none⟩ = some (.int .u8 (bN (bAt l i)))) :
    Calls Tryd.prog 62 #[.agg (rowA 8 (uF s)), .slice (some ⟨b, o, none⟩) 64 cap] w fun e w' => e = .returned (.agg (rowA 8 (uF fun i => s i + (runTo K (wS l 48) (St.of s) 64).get i))) ∧ Below w.heap.size w w' := by
  have HK := Lib.hid hK
  have HC := Lib.hid hc
  clear hK hc
  go_enter Tryd.func62, Tryd.ntmps62
  go_wp2
  have r0 := ((rowIs_box w 92 8 (uF s)).alloc (.cells (rowA 8 fun _ => .int .u32 0) 92)).alloc (.cells (Array.replicate 64 (.int .u64 0)) 107)
  have r1 := (rowIs_box (w.alloc (.cells (rowA 8 (uF s)) 92)) 92 8 fun _ => .int .u32 0).alloc (.cells (Array.replicate 64 (.int .u64 0)) 107)
  have r2 := rowIs_zeros64 (wS l 48) ((w.alloc (.cells (rowA 8 (uF s)) 92)).alloc (.cells (rowA 8 fun _ => .int .u32 0) 92)) 107 64
  have hB : Below w.heap.size w (((w.alloc (.cells (rowA 8 (uF s)) 92)).alloc (.cells (rowA 8 fun _ => .int .u32 0) 92)).alloc (.cells (Array.replicate 64 (.int .u64 0)) 107)) :=
    (((Below.refl _ w).alloc (Nat.le_refl _) _).alloc (by simp) _).alloc (by simp; omega) _
  rw [World.size_alloc] at r1 r2
  rw [World.size_alloc] at r2
  change Code.wp _ _ _ _ (((w.alloc (.cells (rowA 8 (uF s)) 92)).alloc (.cells (rowA 8 fun _ => .int .u32 0) 92)).alloc (.cells (Array.replicate 64 (.int .u64 0)) 107))
  generalize (((w.alloc (.cells (rowA 8 (uF s)) 92)).alloc (.cells (rowA 8 fun _ => .int .u32 0) 92)).alloc (.cells (Array.replicate 64 (.int .u64 0)) 107)) = W0 at r0 r1 r2 hB ⊢
  go_loopw [6] (fun i wr => ∃ t : Nat, t ≤ 64 ∧ i = .int .i64 t ∧ RT1 s l w t wr) (fun i _ => 64 - (intOf i).toNat)
  case atStart => exact ⟨0, by omega, rfl, r0, r1, r2, hB⟩
  case round =>
    obtain ⟨t, ht, rfl, q0, q1, q2, qB⟩ := hrel
    clear r0 r1 r2 hB
    by_cases hlt : t < 64
    · by_cases h16 : t < 16
      · have e0 : wr.cell? ⟨b, o + 4 * t, none⟩ = _ := (qB.cell (p := ⟨b, o + (4 * t), none⟩) hb).trans (HC.out (4 * t) (by omega))
        have e1 : wr.cell? ⟨b, o + (4 * t + 1), none⟩ = _ := (qB.cell (p := ⟨b, o + (4 * t + 1), none⟩) hb).trans (HC.out (4 * t + 1) (by omega))
        have e2 : wr.cell? ⟨b, o + (4 * t + 2), none⟩ = _ := (qB.cell (p := ⟨b, o + (4 * t + 2), none⟩) hb).trans (HC.out (4 * t + 2) (by omega))
        have e3 : wr.cell? ⟨b, o + (4 * t + 3), none⟩ = _ := (qB.cell (p := ⟨b, o + (4 * t + 3), none⟩) hb).trans (HC.out (4 * t + 3) (by omega))
        have hz := word_num l t
        obtain ⟨z0, y0, x0⟩ : ∃ z : Nat, z < 256 ∧ bN (bAt l (4 * t)) = (z : Int) := ⟨(bAt l (4 * t)).toNat, UInt8.toNat_lt _, rfl⟩
        obtain ⟨z1, y1, x1⟩ : ∃ z : Nat, z < 256 ∧ bN (bAt l (4 * t + 1)) = (z : Int) := ⟨(bAt l (4 * t + 1)).toNat, UInt8.toNat_lt _, rfl⟩
        obtain ⟨z2, y2, x2⟩ : ∃ z : Nat, z < 256 ∧ bN (bAt l (4 * t + 2)) = (z : Int) := ⟨(bAt l (4 * t + 2)).toNat, UInt8.toNat_lt _, rfl⟩
        obtain ⟨z3, y3, x3⟩ : ∃ z : Nat, z < 256 ∧ bN (bAt l (4 * t + 3)) = (z : Int) := ⟨(bAt l (4 * t + 3)).toNat, UInt8.toNat_lt _, rfl⟩
        rw [x0] at e0 hz
        rw [x1] at e1 hz
        rw [x2] at e2 hz
        rw [x3] at e3 hz
        clear x0 x1 x2 x3
        have Hz := Lib.hid hz
        clear hz
        have j0 : (0 : Int) ≤ 4 * (t : Int) := by omega
        have j1 : (0 : Int) ≤ 4 * (t : Int) + 1 := by omega
        have j2 : (0 : Int) ≤ 4 * (t : Int) + 2 := by omega
        have j3 : (0 : Int) ≤ 4 * (t : Int) + 3 := by omega
        have i0 : 4 * (t : Int) < 64 := by omega
        have i1 : 4 * (t : Int) + 1 < 64 := by omega
        have i2 : 4 * (t : Int) + 2 < 64 := by omega
        have i3 : 4 * (t : Int) + 3 < 64 := by omega
        have it : (t : Int) < 64 := by omega
        have it2 : (t : Int) < 16 := by omega
        have ct := q2.cell (i := t) hlt
        have cf := q2.frozen t
        go_wp2
        refine wp_region_still_tail 35 (by kernel_rfl) (by kernel_rfl) ?_
        simp only [List.take_succ_cons, List.take_zero, List.drop_succ_cons, List.drop_zero]
        repeat (refine wpStill_step (fun K hK => ?_); go_simp; (try go_bits); refine hK _ ?_; clear hK K)
        refine wpStill_nil ?_
        go_wp2
        go_roundw
        case rel => exact ⟨t + 1, by omega, by go_num, q0.drew.setOther (by simp; omega) _, q1.drew.setOther (by simp) _, (q2.drew.set t _).congr fun i _ => cutT_set (wS l 48) t _ (by rw [wS_first l t h16, Hz.out]) i, (qB.setCell (p := ⟨w.heap.size + 1 + 1, t, none⟩) (by simp; omega) _).drew⟩
        case measure => simp [intOf]; omega
      · have c2 := q2.cell (i := t - 2) (by omega)
        have c7 := q2.cell (i := t - 7) (by omega)
        have c15 := q2.cell (i := t - 15) (by omega)
        have c16 := q2.cell (i := t - 16) (by omega)
        rw [vF_at, cutT_at _ _ _ (by omega)] at c2 c7 c15 c16
        have ct := q2.cell (i := t) hlt
        have cf := q2.frozen t
        have hz := wS_rec l t (by omega) hlt
        have Hz := Lib.hid hz
        clear hz
        generalize wS l 48 (t - 2) = y2 at c2 Hz
        generalize wS l 48 (t - 7) = y7 at c7 Hz
        generalize wS l 48 (t - 15) = y15 at c15 Hz
        generalize wS l 48 (t - 16) = y16 at c16 Hz
        have i2 : (2 : Int) ≤ t := by omega
        have j2 : (t : Int) - 2 < 64 := by omega
        have i7 : (7 : Int) ≤ t := by omega
        have j7 : (t : Int) - 7 < 64 := by omega
        have i15 : (15 : Int) ≤ t := by omega
        have j15 : (t : Int) - 15 < 64 := by omega
        have i16 : (16 : Int) ≤ t := by omega
        have j16 : (t : Int) - 16 < 64 := by omega
        have it : (t : Int) < 64 := by omega
        have it2 : ¬ (t : Int) < 16 := by omega
        go_wp2
        refine wp_region_still_lit (by kernel_rfl) (by kernel_rfl) ?_
        repeat (refine wpStill_step (fun K hK => ?_); go_simp; (try go_bits); refine hK _ ?_; clear hK K)
        refine wpStill_nil ?_
        go_wp2
        change Code.wp _ _ _ _ wr.drew
        replace q0 := q0.drew
        replace q1 := q1.drew
        replace q2 := q2.drew
        replace qB := qB.drew
        replace c2 := cell_drew c2
        replace c7 := cell_drew c7
        replace c15 := cell_drew c15
        replace c16 := cell_drew c16
        replace ct := cell_drew ct
        replace cf : wr.drew.frozen? ⟨w.heap.size + 1 + 1, t, none⟩ = false := cf
        generalize wr.drew = wr2 at q0 q1 q2 qB c2 c7 c15 c16 ct cf ⊢
        refine wp_region_still_tail 30 (by kernel_rfl) (by kernel_rfl) ?_
        simp only [List.take_succ_cons, List.take_zero, List.drop_succ_cons, List.drop_zero]
        repeat (refine wpStill_step (fun K hK => ?_); go_simp; (first
          | (refine ⟨_, ((right_any _ _ (by decide) (by decide) _).mono fun _ _ h => ⟨h.1, h.2.symm⟩), hK _ ?_⟩)
          | (refine ⟨_, ((shift_any _ _ (by decide) (by decide) _).mono fun _ _ h => ⟨h.1, h.2.symm⟩), hK _ ?_⟩)
          | ((try go_bits); refine hK _ ?_)); clear hK K)
        refine wpStill_nil ?_
        go_wp2
        go_roundw
        case rel => exact ⟨t + 1, by omega, by go_num, q0.drew.setOther (by simp; omega) _, q1.drew.setOther (by simp) _, (q2.drew.set t _).congr fun i _ => cutT_set (wS l 48) t _ (by rw [Hz.out]; rfl) i, (qB.setCell (p := ⟨w.heap.size + 1 + 1, t, none⟩) (by simp; omega) _).drew⟩
        case measure => simp [intOf]; omega
    · obtain rfl : t = 64 := by omega
      rw [show ((64 : Nat) : Int) = 64 from rfl]
      have hgB : w.heap.size + 1 + 1 < wr.heap.size := q2.lt
      have q3 := rowIs_zeros64 s wr 109 8
      replace q0 := q0.alloc (.cells (Array.replicate 8 (.int .u64 0)) 109)
      replace q1 := q1.alloc (.cells (Array.replicate 8 (.int .u64 0)) 109)
      replace q2 := q2.alloc (.cells (Array.replicate 8 (.int .u64 0)) 109)
      replace q2 := q2.congr (g := vF (wS l 48)) fun i hi => by rw [vF_at, vF_at, cutT_at _ _ _ hi]
      have qB2 := qB.alloc qB.size (.cells (Array.replicate 8 (.int .u64 0)) 109)
      go_wp2
      change Code.wp _ _ _ _ (wr.alloc (.cells (Array.replicate 8 (.int .u64 0)) 109))
      generalize wr.heap.size = g at hgB q3 ⊢
      generalize wr.alloc (.cells (Array.replicate 8 (.int .u64 0)) 109) = W1 at q0 q1 q2 q3 qB2 ⊢
      clear qB
      go_loopw [10] (fun i wr => ∃ t : Nat, t ≤ 8 ∧ i = .int .i64 t ∧ wr.rowIs w.heap.size 92 8 (uF s) ∧ wr.rowIs (w.heap.size + 1) 92 8 (fun _ => .int .u32 0) ∧ wr.rowIs (w.heap.size + 1 + 1) 107 64 (vF (wS l 48)) ∧ wr.rowIs g 109 8 (vF (cutT s t)) ∧ Below w.heap.size w wr) (fun i _ => 8 - (intOf i).toNat)
      case atStart => exact ⟨0, by omega, rfl, q0, q1, q2, q3, qB2⟩
      case round =>
        clear q0 q1 q2 q3 qB2
        obtain ⟨t, ht, rfl, q0, q1, q2, q3, qB⟩ := hrel
        by_cases hlt : t < 8
        · have c0 := q0.cell (i := t) hlt
          have c3 := q3.cell (i := t) hlt
          have f3 := q3.frozen t
          have it : (t : Int) < 8 := by omega
          go_wp2
          go_roundw
          case rel => exact ⟨t + 1, by omega, by go_num, q0.setOther (by simp; omega) _, q1.setOther (by simp; omega) _, q2.setOther (by simp; omega) _, (q3.set t _).congr fun i _ => cutT_set s t _ rfl i, (qB.setCell (p := ⟨g, t, none⟩) (by simp; omega) _)⟩
          case measure => simp [intOf]; omega
        · obtain rfl : t = 8 := by omega
          rw [show ((8 : Nat) : Int) = 8 from rfl]
          replace q3 := q3.congr (g := vF (St.of s).get) fun i hi => by
            rw [vF_at, vF_at, cutT_at _ _ _ hi]
            match i, hi with
            | 0, _ => rfl | 1, _ => rfl | 2, _ => rfl | 3, _ => rfl | 4, _ => rfl | 5, _ => rfl | 6, _ => rfl | 7, _ => rfl
          go_wp2
          rename_i wr1
          generalize wr = W2 at q0 q1 q2 q3 qB ⊢
          go_loopw [11] (fun i wr => ∃ (t : Nat) (x : St), t ≤ 64 ∧ i = .int .i64 t ∧ Hid (x = runTo K (wS l 48) (St.of s) t) ∧ wr.rowIs w.heap.size 92 8 (uF s) ∧ wr.rowIs (w.heap.size + 1) 92 8 (fun _ => .int .u32 0) ∧ wr.rowIs (w.heap.size + 1 + 1) 107 64 (vF (wS l 48)) ∧ wr.rowIs g 109 8 (vF x.get) ∧ Below w.heap.size w wr) (fun i _ => 64 - (intOf i).toNat)
          case atStart => exact ⟨0, St.of s, by omega, rfl, rfl, q0, q1, q2, q3, qB⟩
          case round =>
            clear q0 q1 q2 q3 qB
            obtain ⟨t, x, ht, rfl, hx, q0, q1, q2, q3, qB⟩ := hrel
            by_cases hlt : t < 64
            · have cK := (qB.cell (p := ⟨1, t, none⟩) h1).trans (HK.out t hlt)
              have cW := q2.cell (i := t) hlt
              rw [vF_at] at cW
              obtain ⟨Wt, HWt⟩ : ∃ Wt, Hid (wS l 48 t = Wt) := ⟨_, Lib.hid rfl⟩
              rw [HWt.out] at cW
              have it : (t : Int) < 64 := by omega
              have c0 : wr.cell? ⟨g, 0, none⟩ = some (.int .u64 (uN x.a)) := q3.cell (i := 0) (by omega)
              have c1 : wr.cell? ⟨g, 1, none⟩ = some (.int .u64 (uN x.b)) := q3.cell (i := 1) (by omega)
              have c2 : wr.cell? ⟨g, 2, none⟩ = some (.int .u64 (uN x.c)) := q3.cell (i := 2) (by omega)
              have c3 : wr.cell? ⟨g, 3, none⟩ = some (.int .u64 (uN x.d)) := q3.cell (i := 3) (by omega)
              have c4 : wr.cell? ⟨g, 4, none⟩ = some (.int .u64 (uN x.e)) := q3.cell (i := 4) (by omega)
              have c5 : wr.cell? ⟨g, 5, none⟩ = some (.int .u64 (uN x.f)) := q3.cell (i := 5) (by omega)
              have c6 : wr.cell? ⟨g, 6, none⟩ = some (.int .u64 (uN x.g)) := q3.cell (i := 6) (by omega)
              have c7 : wr.cell? ⟨g, 7, none⟩ = some (.int .u64 (uN x.h)) := q3.cell (i := 7) (by omega)
              go_wp2
              refine wp_region_still_lit (by kernel_rfl) (by kernel_rfl) ?_
              repeat (refine wpStill_step (fun K hK => ?_); go_simp; (try go_bits); refine hK _ ?_; clear hK K)
              refine wpStill_nil ?_
              go_wp2_with fail
              change Code.wp _ _ _ _ wr.drew
              replace q0 := q0.drew
              replace q1 := q1.drew
              replace q2 := q2.drew
              replace q3 := q3.drew
              replace qB := qB.drew
              replace cK := cell_drew cK
              replace cW := cell_drew cW
              replace c0 := cell_drew c0
              replace c1 := cell_drew c1
              replace c2 := cell_drew c2
              replace c3 := cell_drew c3
              replace c4 := cell_drew c4
              replace c5 := cell_drew c5
              replace c6 := cell_drew c6
              replace c7 := cell_drew c7
              generalize wr.drew = wr2 at q0 q1 q2 q3 qB cK cW c0 c1 c2 c3 c4 c5 c6 c7 ⊢
              refine wp_region_still_lit (by kernel_rfl) (by kernel_rfl) ?_
              repeat (refine wpStill_step (fun K hK => ?_); go_simp; (first
                | (refine ⟨_, ((right_any _ _ (by decide) (by decide) _).mono fun _ _ h => ⟨h.1, h.2.symm⟩), hK _ ?_⟩)
                | ((try go_bits); refine hK _ ?_)); clear hK K)
              refine wpStill_nil ?_
              change Exit.then _ _ _ _ wr2.drew
              replace q0 := q0.drew
              replace q1 := q1.drew
              replace q2 := q2.drew
              replace q3 := q3.drew
              replace qB := qB.drew
              replace c0 := cell_drew c0
              replace c1 := cell_drew c1
              replace c2 := cell_drew c2
              replace c3 := cell_drew c3
              replace c4 := cell_drew c4
              replace c5 := cell_drew c5
              replace c6 := cell_drew c6
              replace c7 := cell_drew c7
              clear cK cW
              generalize wr2.drew = wr3 at q0 q1 q2 q3 qB c0 c1 c2 c3 c4 c5 c6 c7 ⊢
              obtain ⟨o1, Ho1⟩ : ∃ o1, Hid (x.h + (x.e.rotateRight 6 ^^^ x.e.rotateRight 11 ^^^ x.e.rotateRight 25) + (x.e &&& x.f ^^^ ~~~x.e &&& x.g) + K t + Wt = o1) := ⟨_, Lib.hid rfl⟩
              obtain ⟨m1, Hm1⟩ : ∃ m1, Hid (x.a &&& x.b ^^^ x.a &&& x.c ^^^ x.b &&& x.c = m1) := ⟨_, Lib.hid rfl⟩
              rw [Ho1.out, Hm1.out]
              go_wp2_with fail
              refine (right_any _ _ (by decide) (by decide) _).mono ?_
              rintro e w' ⟨rfl, rfl⟩
              go_wp2_with fail
              refine (right_any _ _ (by decide) (by decide) _).mono ?_
              rintro e w' ⟨rfl, rfl⟩
              go_wp2_with fail
              refine (right_any _ _ (by decide) (by decide) _).mono ?_
              rintro e w' ⟨rfl, rfl⟩
              go_upto_region 24 with fail
              obtain ⟨o2, Ho2⟩ : ∃ o2, Hid ((x.a.rotateRight (2 : Int).toNat ^^^ x.a.rotateRight (13 : Int).toNat ^^^ x.a.rotateRight (22 : Int).toNat) + m1 = o2) := ⟨_, Lib.hid rfl⟩
              first | rw [Ho2.out] | (simp only [Int.reduceToNat] at Ho2; rw [Ho2.out])
              refine wp_region_lit ?_
              iterate 22 (refine wpList_plain rfl (fun K hK => ?_); go_simp; (try go_bits); refine hK _ _ ?_; clear hK K)
              have hth := there_row q3
              refine wpList_store_mid rfl 109 (.tmp 9) (.tmp 200) rfl g 0 #[.int .u64 (uN (o1 + o2)), .int .u64 (uN x.a), .int .u64 (uN x.b), .int .u64 (uN x.c), .int .u64 (uN (x.d + o1)), .int .u64 (uN x.e), .int .u64 (uN x.f), .int .u64 (uN x.g)] ?_ ?_ hth info47 ?_ ?_
              · go_simp
              · go_simp
              · simp [Value.oneCell']
              obtain ⟨nx, hnx⟩ : ∃ nx : St, nx = ⟨o1 + o2, x.a, x.b, x.c, x.d + o1, x.e, x.f, x.g⟩ := ⟨_, rfl⟩
              have hL : (#[.int .u64 (uN (o1 + o2)), .int .u64 (uN x.a), .int .u64 (uN x.b), .int .u64 (uN x.c), .int .u64 (uN (x.d + o1)), .int .u64 (uN x.e), .int .u64 (uN x.f), .int .u64 (uN x.g)] : Array Value).toList = (rowA 8 (vF nx.get)).toList := by rw [hnx]; rfl
              rw [hL]
              have Hnx : Hid (nx = runTo K (wS l 48) (St.of s) (t + 1)) := Lib.hid (by
                rw [runTo, ← hx.out, HWt.out, hnx, ← Ho1.out, ← Ho2.out, ← Hm1.out]; rfl)
              clear hL hnx Ho1 Ho2 Hm1 c0 c1 c2 c3 c4 c5 c6 c7 hth
              replace q0 := rowIs_setOther q0 (b' := g) (by omega) (rowA 8 (vF nx.get)).toList 0
              replace q1 := rowIs_setOther q1 (b' := g) (by omega) (rowA 8 (vF nx.get)).toList 0
              replace q2 := rowIs_setOther q2 (b' := g) (by omega) (rowA 8 (vF nx.get)).toList 0
              replace q3 := rowIs_setAll q3 (vF nx.get)
              replace qB := below_setCells g (by omega) (rowA 8 (vF nx.get)).toList 0 _ qB
              generalize wr3.setCells g 0 (rowA 8 (vF nx.get)).toList = wr4 at q0 q1 q2 q3 qB ⊢
              go_wp2
              go_roundw
              case rel => exact ⟨t + 1, nx, by omega, by go_num, Hnx, q0, q1, q2, q3, qB⟩
              case measure => simp [intOf]; omega
            · obtain rfl : t = 64 := by omega
              rw [show ((64 : Nat) : Int) = 64 from rfl]
              obtain ⟨T, HT2⟩ : ∃ T, Hid (x.get = T) := ⟨_, Lib.hid rfl⟩
              rw [HT2.out] at q3
              clear q2
              go_wp2
              generalize wr = W3 at q0 q1 q3 qB ⊢
              go_loopw [18] (fun i wr => ∃ k : Nat, k ≤ 8 ∧ i = .int .i64 k ∧ wr.rowIs w.heap.size 92 8 (uF (mixed s T k)) ∧ wr.rowIs (w.heap.size + 1) 92 8 (fun _ => .int .u32 0) ∧ wr.rowIs g 109 8 (vF T) ∧ Below w.heap.size w wr) (fun i _ => 8 - (intOf i).toNat)
              case atStart => exact ⟨0, by omega, rfl, q0, q1, q3, qB⟩
              case round =>
                clear q0 q1 q3 qB
                obtain ⟨k, hk, rfl, q0, q1, q3, qB⟩ := hrel
                by_cases hlt : k < 8
                · have c0 := q0.cell (i := k) (by omega)
                  rw [uF_at, show mixed s T k k = s k by simp [mixed]] at c0
                  have c3 := q3.cell (i := k) (by omega)
                  have f0 := q0.frozen k
                  have i8 : (k : Int) < 8 := by omega
                  go_wp2
                  refine wp_region_still_tail 12 (by kernel_rfl) (by kernel_rfl) ?_
                  simp only [List.take_succ_cons, List.take_zero, List.drop_succ_cons, List.drop_zero]
                  repeat (refine wpStill_step (fun K hK => ?_); go_simp; (try go_bits); refine hK _ ?_; clear hK K)
                  refine wpStill_nil ?_
                  go_wp2
                  go_roundw
                  case rel => exact ⟨k + 1, by omega, by go_num, ((q0.set k _).congr fun i _ => mixed_set s T k i), q1.setOther (by simp) _, q3.setOther (by simp; omega) _, (qB.setCell (p := ⟨w.heap.size, k, none⟩) (by simp) _).drew⟩
                  case measure => simp [intOf]; omega
                · obtain rfl : k = 8 := by omega
                  have hR := rangeAt_row q0
                  go_wp2_with (first
                    | (refine wpList_load_mid rfl 92 (.tmp 2) rfl w.heap.size 0 rfl (rowA 8 (uF (mixed s T 8))).toList _ hR Tryd.underlying92 rfl (by rw [rowA_toList]; simpa using info23) ?_)
                    | (refine wpList_store_mid rfl 92 (.tmp 4) (.tmp 217) rfl (w.heap.size + 1) 0 (rowA 8 (uF (mixed s T 8))) rfl rfl (by rw [rowA_size]; exact there_row q1) (by rw [rowA_size]; exact info23) (rowA_one _ _ fun _ => rfl) ?_))
                  refine bodyPost_ret (results_row rfl _ rfl (rowIs_setAll q1 (uF (mixed s T 8))) Tryd.underlying92 info23) rfl ⟨?_, below_setCells _ (by omega) _ _ _ qB⟩
                  rw [← hx.out, HT2.out]
                  exact congrArg (fun z => Ending.returned (.agg z)) (rowA_congr fun i hi => by simp [uF, mixed, hi])
end Go.Proofs.YtbejolbknimmmaaDoor
/- The reference's Fill. -/
namespace Go.Proofs.YtbejolbknimmmaaDoor
open Go.RowKit
set_option maxRecDepth 8000
set_option linter.all false
attribute [local go_sem] bF_at

theorem fillHead_pos (k : Nat) (h : 1 ≤ k) : bF fillHead k = .int .u8 0 := by
  simp [bF, fillHead, bN, show k ≠ 0 by omega]
theorem step_len (n k p : Nat) (hk : k < 8) (hn : n ≤ 1000000) (hp : p = 72057594037927936 / 256 ^ k) : ((n * 8 / p % 256 : Nat) : Int) = bN (lenByte n k) := by
  have e : 72057594037927936 / 256 ^ k = 2 ^ (56 - 8 * k) := by
    have : ∀ k : Fin 8, 72057594037927936 / 256 ^ k.val = 2 ^ (56 - 8 * k.val) := by decide
    exact this ⟨k, hk⟩
  rw [lenByte, bN, UInt8.toNat_ofNat', hp, e, Nat.mod_eq_of_lt (a := n * 8) (by omega)]

set_option maxHeartbeats 1000000 in
theorem RFill_r (n r : Nat) (hn : n ≤ 1000000) (hr1 : 1 ≤ r) (hr2 : r ≤ 64) (hr3 : (n + r) % 64 = 56) (hr4 : ∀ k, 1 ≤ k → k < r → (n + k) % 64 ≠ 56) (w : World) :
    Calls Tryd.prog 61 #[.int .i64 n] w (FillPost n r w) := by
  obtain ⟨i0, hi, hz0, hz1, hz2⟩ := info_parts info5
  have H4 := Lib.hid hr4
  have H3 := Lib.hid hr3
  clear hr4 hr3
  go_enter Tryd.func61, Tryd.ntmps61
  go_wp2
  have r0 : (w.alloc (.cells #[.int .u8 128] 5)).rowIs w.heap.size 5 1 (bF fillHead) := (rowIs_box w 5 1 fun _ => .int .u8 128).congr fun i hi => by
    obtain rfl : i = 0 := by omega
    rfl
  have hB : Below w.heap.size w (w.alloc (.cells #[.int .u8 128] 5)) := (Below.refl _ w).alloc (Nat.le_refl _) _
  have ho := ownsRow_row r0 w.heap.size 1 (by omega) (by unfold maxLen; omega) (Nat.le_refl _)
  generalize w.alloc (.cells #[.int .u8 128] 5) = W0 at ho hB ⊢
  clear r0
  go_loopw [3] (fun v wr => ∃ k : Nat, 1 ≤ k ∧ k ≤ r ∧ wr.ownsRow w.heap.size 5 1 v k ((List.range k).map (bF fillHead)) ∧ Below w.heap.size w wr) (fun v _ => match v with | .slice _ m _ => r - m | _ => 0)
  case atStart => exact ⟨1, by omega, by omega, ho, hB⟩
  case round =>
    obtain ⟨k, hk1, hk, hown, qB⟩ := hrel
    clear ho hB
    obtain ⟨g, c, rfl, _, _⟩ := hown.form (by omega)
    by_cases hlt : k < r
    · have t1 : (((n : Int) + (k : Int)) % 64 == 56) = false := by
        have := H4.out k hk1 hlt
        simp; omega
      go_wp2_with (at_builtin; refine wpList_append_own _ rfl (.tmp 16) (.tmp 17) 33 rfl w.heap.size 5 i0 _ 1 1 Tryd.underlying33 hi hz0 hz1 hz2 rfl (by omega) _ k _ rfl (hown.alloc _) ⟨wr.heap.size, 0, none⟩ 1 1 [.int .u8 0] rfl rfl (one_cell _ _ _) (by simp [Value.oneCell']) (by unfold maxLen; omega) (by omega) (by have := qB.size; simp; omega) ?_; intro v' w1 hown' hg1 _)
      go_roundw
      case rel =>
        refine ⟨k + 1, by omega, by omega, ?_, (qB.alloc qB.size _).grown hg1 (by have := qB.size; simp; omega) (fun g e => (hown.lt g e).1)⟩
        rw [List.range_succ, List.map_append]
        simp only [List.map_cons, List.map_nil]
        rw [fillHead_pos k hk1]
        exact hown'
      case measure =>
        obtain ⟨g', c', rfl, _, _⟩ := hown'.form (by omega)
        show r - (k + 1) < r - k
        omega
    · obtain rfl : k = r := by omega
      have t1 : (((n : Int) + (k : Int)) % 64 == 56) = true := by
        have := H3.out
        simp; omega
      have t2 : (((n : Int) + (k : Int)) % 64 != 56) = false := by
        have := H3.out
        simp; omega
      have Ht1 := Lib.hid t1
      go_wp2
      clear t1 t2
      go_loopw [3, 5, 6] (fun v st i wr => ∃ j p : Nat, j ≤ 8 ∧ i = .int .i64 j ∧ st = .int .u64 p ∧ Hid (p = 72057594037927936 / 256 ^ j) ∧ wr.ownsRow w.heap.size 5 1 v (k + j) ((List.range k).map (bF fillHead) ++ (List.range j).map (bF (lenByte n))) ∧ Below w.heap.size w wr) (fun _ _ i _ => 8 - (intOf i).toNat)
      case atStart => exact ⟨0, 72057594037927936, by omega, rfl, rfl, Lib.hid (by simp), by simpa using hown, qB⟩
      case round =>
        clear hown qB
        obtain ⟨j, p, hj, rfl, rfl, Hp, hown, qB⟩ := hrel
        by_cases hlt : j < 8
        · have hp0 : 0 < p := by
            have : ∀ k : Fin 8, 0 < 72057594037927936 / 256 ^ k.val := by decide
            rw [Hp.out]; exact this ⟨j, hlt⟩
          have hpz : ((p : Int) == 0) = false := by simp; omega
          have hsl := step_len n j p hlt hn Hp.out
          have Hsl := Lib.hid hsl
          clear hsl
          have hp1 : (p : Int) ≠ 0 := by omega
          have hpb : p ≤ 72057594037927936 := by rw [Hp.out]; exact Nat.div_le_self _ _
          have hpw : IntKind.u64.wrap ((p : Int) / 256) = ((p / 256 : Nat) : Int) := by rw [wrap_u64]; omega
          have hval : ((n : Int) * 8 / (p : Int)).tmod 256 % 256 = bN (lenByte n j) := by
            have h0 : (0 : Int) ≤ (n : Int) * 8 / p := Int.ediv_nonneg (by omega) (by omega)
            rw [Int.tmod_eq_emod_of_nonneg h0, ← Hsl.out]
            have : (n : Int) * 8 / (p : Int) = ((n * 8 / p : Nat) : Int) := by simp
            rw [this]; omega
          go_wp2_with (at_builtin; refine wpList_append_own _ rfl (.tmp 26) (.tmp 32) 33 rfl w.heap.size 5 i0 _ 1 1 Tryd.underlying33 hi hz0 hz1 hz2 rfl (by omega) u3 (k + j) _ rfl (hown.alloc _) ⟨wr.heap.size, 0, none⟩ 1 1 [bF (lenByte n) j] rfl rfl (one_cell _ _ _) (by simp [bF, Value.oneCell']) (by unfold maxLen; omega) (by omega) (by have := qB.size; simp; omega) ?_; intro v' w1 hown' hg1 _)
          go_roundw
          case rel =>
            refine ⟨j + 1, p / 256, by omega, by go_num, rfl, Lib.hid (by rw [Hp.out, Nat.div_div_eq_div_mul, Nat.pow_succ]), ?_, (qB.alloc qB.size _).grown hg1 (by have := qB.size; simp; omega) (fun g e => (hown.lt g e).1)⟩
            rw [List.range_succ, List.map_append, ← List.append_assoc]
            exact hown'
          case measure => simp [intOf]; omega
        · obtain rfl : j = 8 := by omega
          go_wp2
          go_ret
          exact ⟨_, rfl, hown, qB⟩
theorem RFill_any (n : Nat) (hn : n ≤ 1000000) (w : World) : Calls Tryd.prog 61 #[.int .i64 n] w (FillPost n (if n % 64 < 56 then 56 - n % 64 else 120 - n % 64) w) := by
  by_cases h : n % 64 < 56
  · rw [if_pos h]; exact RFill_r n _ hn (by omega) (by omega) (by omega) (fun k _ _ => by omega) w
  · rw [if_neg h]; exact RFill_r n _ hn (by omega) (by omega) (by omega) (fun k _ _ => by omega) w
set_option maxHeartbeats 400000 in
theorem RFill_neg (n : Int) (hn : n < 0) (w : World) : Calls Tryd.prog 61 #[.int .i64 n] w fun e w' => e = .returned (.slice none 0 0) ∧ w = w' := by
  go_enter Tryd.func61, Tryd.ntmps61
  go_wp2
  go_ret
  exact ⟨rfl, rfl⟩
end Go.Proofs.YtbejolbknimmmaaDoor
/- The reference's Sum. -/
namespace Go.Proofs.YtbejolbknimmmaaDoor
open Go.RowKit
set_option maxRecDepth 8000
set_option linter.all false
attribute [local go_sem] uF_at bF_at run_storeU run_storeB

theorem ownsRow_belowW {W W' : World} {base : Nat} {e : TypeId} {size : Nat} {v : Value} {n : Nat} {xs : List Value} (h : W.ownsRow base e size v n xs) (hb : Below W.heap.size W W') : W'.ownsRow base e size v n xs :=
  h.kept (row := none) ⟨hb.os, hb.tape, hb.output, hb.size, fun k hk _ => hb.block k hk⟩ (by cases v.ownBlock with | none => exact .inl rfl | some k => exact .inr (by simp))
/-- The digest, written from behind: the numbers before i, and of number i the last j bytes. -/
def outF (S : Nat → BitVec 32) (i j p : Nat) : UInt8 := if p < 4 * i then dig S p else if 4 * i + 4 ≤ p + j ∧ p < 4 * i + 4 then dig S p else 0
theorem outF_set (S : Nat → BitVec 32) (i j : Nat) (hj : j < 4) (z : Int) (hz : z = bN (dig S (4 * i + (3 - j)))) (p : Nat) : (if p = 4 * i + (3 - j) then Value.int .u8 z else bF (outF S i j) p) = bF (outF S i (j + 1)) p := by
  subst hz
  simp only [bF, outF]
  by_cases h : p = 4 * i + (3 - j)
  · subst h; rw [if_pos rfl, if_neg (by omega), if_pos (by omega)]
  · rw [if_neg h]
    by_cases h2 : p < 4 * i
    · rw [if_pos h2, if_pos h2]
    · rw [if_neg h2, if_neg h2]
      by_cases h3 : 4 * i + 4 ≤ p + j ∧ p < 4 * i + 4
      · rw [if_pos h3, if_pos (by omega)]
      · rw [if_neg h3, if_neg (by omega)]
theorem outF_next (S : Nat → BitVec 32) (i p : Nat) : bF (outF S i 4) p = bF (outF S (i + 1) 0) p := by
  simp only [bF, outF]
  by_cases h : p < 4 * i
  · rw [if_pos h, if_pos (by omega)]
  · rw [if_neg h]
    by_cases h2 : p < 4 * i + 4
    · rw [if_pos ⟨by omega, h2⟩, if_pos (by omega)]
    · rw [if_neg (by omega), if_neg (by omega), if_neg (by omega)]
theorem outF_zero (S : Nat → BitVec 32) (p : Nat) : bF (fun _ => 0) p = bF (outF S 0 0) p := by
  simp only [bF, outF]
  rw [if_neg (by omega), if_neg (by omega)]
theorem dig_back (S : Nat → BitVec 32) (i j : Nat) (hj : j < 4) : (uN (S i >>> (8 * j))) % 256 = bN (dig S (4 * i + (3 - j))) := by
  rw [dig, show (4 * i + (3 - j)) / 4 = i by omega, show (4 * i + (3 - j)) % 4 = 3 - j by omega, show 24 - 8 * (3 - j) = 8 * j by omega, ← u32_u8, wrap_u8]
theorem dig_div (x : BitVec 32) (j : Nat) : uN (x >>> (8 * j)) / (256 : Int) = uN (x >>> (8 * (j + 1))) := by
  have := u32_shr (x >>> (8 * j)) 8
  rw [show ((2 : Int) ^ 8) = 256 from rfl] at this
  rw [this, ← BitVec.shiftRight_add]
  rfl
theorem fill_len (n : Nat) : (n + (fillB n).length) % 64 = 0 := by rw [fillB_length]; split <;> omega
theorem sha_all (l : List UInt8) (m : Nat) (h : (l ++ fillB l.length).length = 64 * m) : shaL Kc Fc l = dig (sB (l ++ fillB l.length) m) := by
  have : cks (l ++ fillB l.length) = (List.range m).map (blk (l ++ fillB l.length)) := by unfold cks; rw [h, show 64 * m / 64 = m by omega]; rfl
  rw [shaL, this, sB_fold]
set_option maxHeartbeats 4000000 in
theorem RSum_any (v : Value) (l : List UInt8) (w : World) (hT : Tables w) (hr : RdV w [] v l) (hl : l.length ≤ 900000) :
    Calls Tryd.prog 51 #[v] w fun e w' => e = .returned (.agg (rowA 32 (bF (shaL Kc Fc l)))) ∧ Below w.heap.size w w' := by
  have HT := Lib.hid hT
  have hsz := hT.size
  have Hr := Lib.hid hr
  obtain ⟨A, cap, rfl, _⟩ := hr
  clear hT
  obtain ⟨n, hn⟩ : ∃ n, l.length = n := ⟨_, rfl⟩
  rw [hn] at hl Hr ⊢
  obtain ⟨i0, hi, hz0, hz1, hz2⟩ := info_parts info5
  have hB1 : Below (w.heap.size) w ((w.alloc (.cells (rowA 32 (bF fun _ => 0)) 48)).alloc (.cells #[] 5)) := ((Below.refl _ w).alloc (Nat.le_refl _) _).alloc (by simp) _
  have rz : ((w.alloc (.cells (rowA 32 (bF fun _ => 0)) 48)).alloc (.cells #[] 5)).rowIs w.heap.size 48 32 (bF fun _ => 0) := (rowIs_box w 48 32 (bF fun _ => 0)).alloc _
  have hown0 : ((w.alloc (.cells (rowA 32 (bF fun _ => 0)) 48)).alloc (.cells #[] 5)).ownsRow (w.heap.size + 1) 5 1 (.slice (some ⟨w.heap.size + 1, 0, none⟩) 0 0) 0 [] := by
    have := rowIs_box (w.alloc (.cells (rowA 32 (bF fun _ => 0)) 48)) 5 0 (fun _ => undef)
    rw [World.size_alloc] at this
    exact ownsRow_row this (w.heap.size + 1) 0 (by omega) (by unfold maxLen; omega) (Nat.le_refl _)
  have Hr1 := Lib.hid (Hr.out.keep (KeepBut.below hB1))
  have hs1 : w.heap.size + 1 ≤ ((w.alloc (.cells (rowA 32 (bF fun _ => 0)) 48)).alloc (.cells #[] 5)).heap.size := by simp
  go_enter Tryd.func51, Tryd.ntmps51
  go_wp2_with (at_builtin; first
    | (refine wpList_append_rd rfl (.tmp 10) (.tmp 11) 33 rfl (base := w.heap.size + 1) Tryd.underlying33 hi hz0 hz1 hz2 rfl hown0 rfl Hr1.out (by omega) hs1 ?_; intro v2 w2 o2 grow2
       have b2 := (Below.refl (w.heap.size + 1) ((w.alloc (.cells (rowA 32 (bF fun _ => 0)) 48)).alloc (.cells #[] 5))).grown grow2 hs1 (fun k e => (hown0.lt k e).1)
       have hB2 := hB1.trans (b2.mono (Nat.le_succ _))
       replace rz := rowIs_below rz b2 (by omega)
       clear grow2 hown0 hs1 Hr1 hB1 b2))
  refine (RFill_any n (by omega) _).mono ?_
  rintro e w3 ⟨v3, rfl, ho3, hb3⟩
  have rd3 := Lib.hid (rdV_fill (L := []) (by simp) ho3)
  have o3 := ownsRow_belowW o2 hb3
  replace rz := rowIs_below rz hb3 rz.lt
  have hB3 := hB2.trans (hb3.mono hB2.size)
  clear o2 ho3 hb3 hB2
  have hfl := fill_len n
  have hf2 : (fillB n).length ≤ 72 := by rw [fillB_length]; split <;> omega
  have hf3 : 0 < (fillB n).length := by rw [fillB_length]; omega
  go_upto_region 2 with (at_builtin; refine wpList_append_rd rfl (.tmp 12) (.tmp 15) 33 rfl (base := w.heap.size + 1) Tryd.underlying33 hi hz0 hz1 hz2 rfl o3 rfl rd3.out (by omega) (by have := rz.lt; omega) ?_; intro v4 w4 o4 grow4)
  have hB4 := hB3.grown grow4 hB3.size (fun k e => by have := (o3.lt k e).1; omega)
  replace rz : w4.rowIs w.heap.size 48 32 (bF fun _ => 0) := rowIs_below rz ((Below.refl (w.heap.size + 1) w3).grown grow4 (by have := rz.lt; omega) (fun k e => (o3.lt k e).1)) (by omega)
  obtain ⟨c, hc⟩ : ∃ c, l ++ fillB n = c := ⟨_, rfl⟩
  have Rall : RdV w4 [] v4 c := by rw [← hc]; exact rdV_own (by simpa [List.map_append] using o4) (by simp) (by simp)
  obtain ⟨m, hm⟩ : ∃ m, m = c.length / 64 := ⟨_, rfl⟩
  have hcm : c.length = 64 * m := by rw [hm, ← hc]; simp only [List.length_append]; omega
  have hD : shaL Kc Fc l = dig (sB c m) := by rw [← hc, ← hn]; exact sha_all l m (by rw [hn, hc, hcm])
  have HD := Lib.hid hD
  obtain ⟨A4, c4, rfl, hcap4, hmax4, hA4⟩ := Rall
  obtain ⟨M, hM⟩ : ∃ M, c.length = M := ⟨_, rfl⟩
  rw [hM] at hcap4 hA4 hcm ⊢
  have hM2 : M ≤ 900072 := by rw [← hM, ← hc]; simp only [List.length_append]; omega
  have hM0 : 0 < M := by rw [← hM, ← hc]; simp only [List.length_append]; omega
  obtain ⟨b4, o4', rfl, _, hcell4⟩ := hA4 hM0
  have HC := Lib.hid hcell4
  have HM := Lib.hid hcm
  have hb4 : b4 < w4.heap.size := World.block_lt_of_cell? _ _ (hcell4 0 hM0)
  clear hD hcell4 hcm hM hc hm hA4 o4 o3 grow4 rd3 hfl hf2 hf3 hB3
  have T4 := HT.out.below hB4
  have f0 := T4.f 0 (by omega)
  have f1 := T4.f 1 (by omega)
  have f2 := T4.f 2 (by omega)
  have f3 := T4.f 3 (by omega)
  have f4 := T4.f 4 (by omega)
  have f5 := T4.f 5 (by omega)
  have f6 := T4.f 6 (by omega)
  have f7 := T4.f 7 (by omega)
  have h0 : 0 < w4.heap.size := by have := T4.size; omega
  clear T4
  go_wp2
  clear f0 f1 f2 f3 f4 f5 f6 f7
  have rs := rowIs_box w4 92 8 (uF Fc)
  have hB5 := (Below.refl _ w4).alloc (Nat.le_refl _) (.cells (rowA 8 (uF Fc)) 92)
  change Code.wp _ _ _ _ (w4.alloc (.cells (rowA 8 (uF Fc)) 92))
  generalize w4.alloc (.cells (rowA 8 (uF Fc)) 92) = w5 at rs hB5 ⊢
  go_loopw [5] (fun i wr => ∃ j k : Nat, j = 64 * k ∧ j ≤ M ∧ i = .int .i64 j ∧ wr.rowIs w4.heap.size 92 8 (uF (sB c k)) ∧ Below w4.heap.size w4 wr) (fun i _ => M - (intOf i).toNat)
  case atStart => exact ⟨0, 0, rfl, by omega, rfl, rs, hB5⟩
  case round =>
    obtain ⟨j, k, hjk, hjM, rfl, qs, qB⟩ := hrel
    clear rs hB5
    by_cases hlt : j < M
    · have HM2 := HM.out
      have hsl := slice_blk b4 o4' M c4 j (by omega)
      have hB6 : Below w.heap.size w wr := hB4.trans (qB.mono hB4.size)
      have HC2 : Hid (∀ i, i < 64 → wr.cell? ⟨b4, o4' + j + i, none⟩ = some (.int .u8 (bN (bAt (blk c k) i)))) := Lib.hid fun i hi => by
        rw [Nat.add_assoc]
        refine (qB.cell (p := ⟨b4, o4' + (j + i), none⟩) hb4).trans ?_
        rw [HC.out (j + i) (by omega), bAt_blk c k i hi, ← hjk]
      have HT2 := HT.out.below hB6
      have HTk := Lib.hid HT2.k
      have hs2 := HT2.size
      have hbr : b4 < wr.heap.size := Nat.lt_of_lt_of_le hb4 qB.size
      have d1 : decide ((j : Int) + 64 ≤ (M : Int)) = true := by simp; omega
      have d2 : (j : Int) + 64 ≤ (M : Int) := by omega
      have hcj : 64 ≤ c4 - j := by omega
      have hcj2 : c4 - j ≤ maxLen := by omega
      clear HT2
      have Hjk := Lib.hid hjk
      clear hjk HM2
      obtain ⟨s, Hs⟩ : ∃ s, Hid (sB c k = s) := ⟨_, Lib.hid rfl⟩
      rw [Hs.out] at qs
      have c0 := qs.cell (i := 0) (by omega)
      have c1 := qs.cell (i := 1) (by omega)
      have c2 := qs.cell (i := 2) (by omega)
      have c3 := qs.cell (i := 3) (by omega)
      have c4' := qs.cell (i := 4) (by omega)
      have c5 := qs.cell (i := 5) (by omega)
      have c6 := qs.cell (i := 6) (by omega)
      have c7 := qs.cell (i := 7) (by omega)
      go_wp2
      refine wp_region_still_tail 6 (by kernel_rfl) (by kernel_rfl) ?_
      simp only [List.take_succ_cons, List.take_zero, List.drop_succ_cons, List.drop_zero]
      iterate 6 (refine wpStill_step (fun K hK => ?_); go_simp; (try go_bits); refine hK _ ?_; clear hK K)
      refine wpStill_nil ?_
      go_wp2_with fail
      refine (RTurn_any Kc s (blk c k) b4 (o4' + j) (c4 - j) hcj hcj2 wr.drew hbr hs2 HTk.out HC2.out).mono ?_
      rintro e w6 ⟨rfl, hB7⟩
      replace qs := rowIs_below qs.drew hB7 qs.lt
      have hB8 : Below w4.heap.size w4 w6 := qB.drew.trans (hB7.mono qB.size)
      have rw2 : RowW w6 w4.heap.size 8 := ⟨_, _, qs⟩
      clear c0 c1 c2 c3 c4' c5 c6 c7 hB7 qB
      go_wp2
      go_roundw
      case rel =>
        refine ⟨j + 64, k + 1, by have := Hjk.out; omega, by omega, by go_num, ?_, below_setCells _ (Nat.le_refl _) _ _ _ hB8⟩
        have := rowIs_setAll qs (uF (turnF Kc s (blk c k)))
        rw [sB, Hs.out]
        exact this
      case measure => simp [intOf]; omega
    · obtain rfl : j = M := by omega
      obtain rfl : k = m := by have := HM.out; omega
      obtain ⟨S, HS⟩ : ∃ S, Hid (sB c k = S) := ⟨_, Lib.hid rfl⟩
      rw [HS.out] at qs
      have Hjk := Lib.hid hjk
      clear hjk
      have hg4 : w4.heap.size < wr.heap.size := qs.lt
      have ro := rowIs_box wr 48 32 (bF fun _ => 0)
      replace qs := qs.alloc (.cells (rowA 32 (bF fun _ => 0)) 48)
      have rz2 := (rowIs_below rz qB rz.lt).alloc (.cells (rowA 32 (bF fun _ => 0)) 48)
      have hgw : w.heap.size < wr.heap.size := (rowIs_below rz qB rz.lt).lt
      have qB6 := (hB4.trans (qB.mono hB4.size)).alloc (by omega) (.cells (rowA 32 (bF fun _ => 0)) 48)
      go_wp2
      change Code.wp _ _ _ _ (wr.alloc (.cells (rowA 32 (bF fun _ => 0)) 48))
      generalize wr.heap.size = g at hgw hg4 ro ⊢
      generalize wr.alloc (.cells (rowA 32 (bF fun _ => 0)) 48) = W6 at ro qs rz2 qB6 ⊢
      clear rz qB
      go_loopw [7] (fun i wr => ∃ t : Nat, t ≤ 8 ∧ i = .int .i64 t ∧ wr.rowIs w4.heap.size 92 8 (uF S) ∧ wr.rowIs w.heap.size 48 32 (bF fun _ => 0) ∧ wr.rowIs g 48 32 (bF (outF S t 0)) ∧ Below w.heap.size w wr) (fun i _ => 8 - (intOf i).toNat)
      case atStart => exact ⟨0, by omega, rfl, qs, rz2, ro.congr fun p _ => outF_zero S p, qB6⟩
      case round =>
        clear qs rz2 ro qB6
        obtain ⟨t, ht, rfl, qs, qz, qo, qB⟩ := hrel
        by_cases hlt : t < 8
        · have cs := qs.cell (i := t) hlt
          have it : (t : Int) < 8 := by omega
          go_wp2
          clear cs
          go_loopw [8, 9] (fun x k wr => ∃ j : Nat, j ≤ 4 ∧ k = .int .i64 (3 - (j : Int)) ∧ x = .int .u32 (uN (S t >>> (8 * j))) ∧ wr.rowIs w4.heap.size 92 8 (uF S) ∧ wr.rowIs w.heap.size 48 32 (bF fun _ => 0) ∧ wr.rowIs g 48 32 (bF (outF S t j)) ∧ Below w.heap.size w wr) (fun _ k _ => (intOf k + 1).toNat)
          case atStart => exact ⟨0, by omega, rfl, rfl, qs, qz, qo, qB⟩
          case round =>
            clear qs qz qo qB
            obtain ⟨j, hj, rfl, rfl, qs, qz, qo, qB⟩ := hrel
            by_cases hj4 : j < 4
            · obtain ⟨q, hq⟩ : ∃ q, 3 - j = q := ⟨_, rfl⟩
              have hz := dig_back S t j hj4
              have hd := dig_div (S t) j
              rw [hq] at hz
              obtain ⟨X, hX, hX2⟩ : ∃ X : Nat, X < 4294967296 ∧ uN (S t >>> (8 * j)) = (X : Int) := ⟨(S t >>> (8 * j)).toNat, (S t >>> (8 * j)).isLt, rfl⟩
              rw [hX2] at hz hd ⊢
              have hqi : (3 : Int) - (j : Int) = (q : Int) := by omega
              rw [hqi]
              have Hz := Lib.hid hz
              have Hd := Lib.hid hd
              have Hq := Lib.hid hq
              have Hqi := Lib.hid hqi
              have hq3 : q ≤ 3 := by omega
              clear hz hd hX2 hq hqi
              have co := qo.cell (i := 4 * t + q) (by omega)
              have fo := qo.frozen (4 * t + q)
              have i1 : 4 * (t : Int) + (q : Int) < 32 := by omega
              have i2 : (0 : Int) ≤ 4 * (t : Int) + (q : Int) := by omega
              go_wp2
              go_roundw
              case rel =>
                refine ⟨j + 1, by omega, ?_, by rw [← Hd.out], qs.setOther (by simp; omega) _, qz.setOther (by simp; omega) _, (qo.set (4 * t + q) _).congr fun p _ => ?_, qB.setCell (p := ⟨g, 4 * t + q, none⟩) (by simp; omega) _⟩
                · congr 1
                  have := Hqi.out
                  omega
                · have := outF_set S t j hj4 ((X : Int) % 256) (by rw [Hq.out]; exact Hz.out) p
                  rwa [Hq.out] at this
              case measure => simp only [intOf]; omega
            · obtain rfl : j = 4 := by omega
              go_wp2
              go_roundw
              case rel => exact ⟨t + 1, by omega, by go_num, qs, qz, qo.congr fun p _ => outF_next S t p, qB⟩
              case measure => simp [intOf]; omega
        · obtain rfl : t = 8 := by omega
          have hR := rangeAt_row qo
          go_wp2_with (first
            | (refine wpList_load_mid rfl 48 (.tmp 6) rfl g 0 rfl (rowA 32 (bF (outF S 8 0))).toList _ hR Tryd.underlying48 rfl (by rw [rowA_toList]; simpa using info31) ?_)
            | (refine wpList_store_mid rfl 48 (.tmp 2) (.tmp 53) rfl w.heap.size 0 (rowA 32 (bF (outF S 8 0))) rfl rfl (by rw [rowA_size]; exact there_row qz) (by rw [rowA_size]; exact info31) (rowA_one _ _ fun _ => rfl) ?_))
          refine bodyPost_ret (results_row rfl _ rfl (rowIs_setAll qz (bF (outF S 8 0))) Tryd.underlying48 info31) rfl ⟨?_, below_setCells _ (Nat.le_refl _) _ _ _ qB⟩
          rw [HD.out, HS.out]
          exact congrArg (fun z => Ending.returned (.agg z)) (rowA_congr fun i hi => by simp only [bF, outF]; rw [if_pos (by omega)])
end Go.Proofs.YtbejolbknimmmaaDoor
/- The reference's Of. -/
namespace Go.Proofs.YtbejolbknimmmaaDoor
open Go Go.RowKit
set_option maxRecDepth 8000
set_option linter.all false
theorem RSumB_cv (v : Value) (l : List UInt8) (D : Nat → UInt8) (w : World) (hT : Tables w) (hr : RdV w [] v l) (hl : l.length ≤ 900000) (hD : shaL Kc Fc l = D) : Cv 51 #[v] w (.eq (.agg (rowA 32 (bF D)))) := by
  rw [← hD]; exact Cv.of_eq (RSum_any v l w hT hr hl)
set_option maxHeartbeats 1000000 in
theorem ROf_cv (n : Int) (pv : Value) (ls : List (List UInt8)) (D : Nat → UInt8) (w : World) (hT : Tables w) (hp : Parts w pv ls) (hlen : ls.length ≤ 1000) (htot : ls.flatten.length ≤ 100000) (hD : shaL Kc Fc (ofL n ls) = D) :
    Cv 40 #[.int .i64 n, pv] w (.eq (.agg (rowA 32 (bF D)))) := by
  unfold Cv
  have HD := Lib.hid hD
  have HT := Lib.hid hT
  have Hp := Lib.hid hp
  have Hol := Lib.hid (ofL_length n ls)
  clear hT hp hD
  go_enter Tryd.func40, Tryd.ntmps40
  go_upto_region 1 with fail
  have r0 := rowIs_box w 48 32 (bF fun _ => 0)
  have hB0 := NewT.alloc w (.cells (rowA 32 (bF fun _ => 0)) 48)
  change Code.wp _ _ _ _ (w.alloc (.cells (rowA 32 (bF fun _ => 0)) 48))
  generalize w.alloc (.cells (rowA 32 (bF fun _ => 0)) 48) = W0 at r0 hB0 ⊢
  replace HT := Lib.hid (hB0.tables HT.out)
  replace Hp := Lib.hid (hB0.partsL Hp.out)
  refine wp_region_seq NewT [SV.eq (.int .i64 n), svParts ls, svRd (ofL n ls), SV.eq (.agg (rowA 32 (bF D)))] [([(0, none)], none), ([(1, none)], none), ([(5, some 0), (6, some 1)], none), ([(7, some 2)], none)] 9 rfl rfl (by kernel_rfl) rfl NewT.trans (NewT.refl _) (Nat.le_of_ble_eq_true rfl) ⟨?_, ?_, ?_, ?_, trivial⟩ ?_
  · -- 0: Op.move t0
    intro a wx hT hF K hK
    obtain ⟨f0, _⟩ := hF
    have f0 : a.tmps.getD 0 undef = .int .i64 n := f0
    refine rely_wp rfl ?_
    exact opr_move (.inl rfl) (hK _ _ (NewT.refl _) f0)
  · -- 1: Op.move t1
    intro a wx hT hF K hK
    obtain ⟨f1, _⟩ := hF
    have f1 : a.tmps.getD 1 undef = pv := f1
    refine rely_wp rfl ?_
    exact opr_move (.inl rfl) (hK _ _ (NewT.refl _) (by rw [eval_tmp, f1]; exact hT.partsL Hp.out))
  · -- 2: Op.call ( value (Operand.func 52), args := #[t5, t6], argTyp
    intro a wx hT hF K hK
    obtain ⟨f5, f6, _⟩ := hF
    have f5 : a.tmps.getD 5 undef = .int .i64 n := f5
    replace f6 := show (svParts ls).pred (a.tmps.getD 6 undef) wx from f6
    refine rely_wp rfl ?_
    exact opr_cv (RText_cv n _ ls wx f6 hlen htot) rfl Tryd.func52 (by kernel_rfl) (by kernel_rfl) (by simp only [List.map_toArray, List.map_cons, List.map_nil, eval_tmp, f5]) hK
  · -- 3: Op.call ( value (Operand.func 51), args := #[t7], argTypes :
    intro a wx hT hF K hK
    obtain ⟨f7, _⟩ := hF
    replace f7 := show (svRd (ofL n ls)).pred (a.tmps.getD 7 undef) wx from f7
    refine rely_wp rfl ?_
    exact opr_cv (RSumB_cv _ (ofL n ls) D wx (hT.tables HT.out) f7 (by have := Hol.out; omega) HD.out) rfl Tryd.func51 (by kernel_rfl) (by kernel_rfl) (by simp only [List.map_toArray, List.map_cons, List.map_nil, eval_tmp]) hK
  · intro wx hT
    intro u h; obtain rfl := h (by simp); clear h
    intro u6 h; have g6 := h (by simp); clear h; replace g6 := show (svParts ls).pred u6 wx from g6
    intro u7 h; have g7 := h (by simp); clear h; replace g7 := show (svRd (ofL n ls)).pred u7 wx from g7
    intro u h; obtain rfl := h (by simp); clear h
    refine relyEnd_nil rfl ?_
    simp only [Act.put, List.setIfInBounds_toArray, List.set_cons_zero, List.set_cons_succ]
    refine opr_store_new (B := w.heap.size) (W := w) info31 rfl rfl rfl (hT.row r0) (NewT.trans _ _ _ hB0 hT) (Nat.le_refl _) ?_
    intro w9 hB9 r9
    go_simp
    go_wp2
    exact bodyPost_ret (results_row rfl _ rfl r9 Tryd.underlying48 info31) rfl ⟨_, rfl, hB9, rfl⟩
end Go.Proofs.YtbejolbknimmmaaDoor
/- The document's answer for layer 9: the chain behind entries. -/
namespace Go.Proofs.YtbejolbknimmmaaDoor
open Go Go.RowKit
set_option maxRecDepth 8000
set_option linter.all false
set_option maxHeartbeats 2000000 in
theorem RChain_cv {nx : (Nat → UInt8) → List UInt8 → Nat → UInt8} (hX : LogH nx) (v0 : Value) (ls : List (List UInt8)) (w : World) (hT : Tables w) (hp : Parts w v0 ls) (hn : ls.length ≤ 100000) (hl : ∀ l ∈ ls, l.length ≤ 2000) : Cv 23 #[v0] w (.eq (.agg (rowA 32 (bF (chL nx hash0 ls))))) := by
  unfold Cv
  have HT := Lib.hid hT
  have HA0 := Lib.hid hp
  have HLL := Lib.hid hl
  obtain ⟨A1, c1, e1', q1⟩ := parts_form hp
  subst e1'
  have r2 : ((w.alloc (.cells (rowA 32 (bF fun _ => 0)) 48)).alloc (.cells (rowA 32 (bF fun _ => 0)) 48)).rowIs w.heap.size 48 32 (bF fun _ => 0) := (rowIs_box w 48 32 (bF fun _ => 0)).alloc _
  have r3 := rowIs_box (w.alloc (.cells (rowA 32 (bF fun _ => 0)) 48)) 48 32 (bF fun _ => 0)
  rw [World.size_alloc] at r3
  have hN0 : NewT w ((w.alloc (.cells (rowA 32 (bF fun _ => 0)) 48)).alloc (.cells (rowA 32 (bF fun _ => 0)) 48)) := NewT.trans _ _ _ (NewT.alloc _ _) (NewT.alloc _ _)
  clear hT hp hl q1
  go_enter Tryd.func23, Tryd.ntmps23
  go_upto_region 2 with fail
  change Code.wp _ _ _ _ ((w.alloc (.cells (rowA 32 (bF fun _ => 0)) 48)).alloc (.cells (rowA 32 (bF fun _ => 0)) 48))
  generalize (w.alloc (.cells (rowA 32 (bF fun _ => 0)) 48)).alloc (.cells (rowA 32 (bF fun _ => 0)) 48) = W0 at r2 r3 hN0 ⊢
  have R20 := Lib.hid r2
  have R30 := Lib.hid r3
  have HN0 := Lib.hid hN0
  clear r2 r3 hN0
  go_wp2
  go_loopw [4] (fun i wr => ∃ (k : Nat) (d : Nat → UInt8), k ≤ ls.length ∧ i = .int .i64 (k : Int) ∧ Hid (wr.rowIs (w.heap.size + 1) 48 32 (bF d)) ∧ Hid (wr.rowIs w.heap.size 48 32 (bF fun _ => 0)) ∧ Hid (chL nx hash0 (ls.take k) = d) ∧ Hid (NewT w wr)) (fun i _ => ls.length - (intOf i).toNat)
  case atStart => exact ⟨0, hash0, by omega, rfl, R30, R20, Lib.hid rfl, HN0⟩
  case round =>
    obtain ⟨k, d, hk, rfl, R3, R2, HD, HN⟩ := hrel
    have HA := Lib.hid (HN.out.partsL HA0.out)
    by_cases hlt : k < ls.length
    · have it : (k : Int) < (ls.length : Int) := by omega
      obtain ⟨s, hx⟩ : ∃ s, ls[k]? = some s := ⟨_, List.getElem?_eq_getElem (by omega)⟩
      have HX := Lib.hid hx
      have HSN := Lib.hid (HLL.out s (List.mem_of_getElem? hx))
      have HTK : Hid (ls.take (k + 1) = ls.take k ++ [s]) := Lib.hid (by rw [List.take_add_one, hx]; rfl)
      clear hx
      go_upto_region 5 with fail
      obtain ⟨va, ea⟩ : ∃ v, Value.slice A1 ls.length c1 = v := ⟨_, rfl⟩
      rw [ea] at HA
      rw [ea]
      refine wp_region_rely (NewT) [svRd (digL (d)), SV.eq (va), SV.eq (.int .i64 ((k : Int))), svPT (s), svRd (s), svParts [digL (d), s], SV.eq (.agg (rowA 32 (bF (nx (d) (s)))))] [([(3, none)], none), ([(0, none)], none), ([(4, none)], none), ([(12, some 1), (13, some 2)], none), ([(14, some 3)], none), ([(11, some 0), (15, some 4)], none), ([(16, some 5)], none)] 19 rfl (by kernel_rfl) rfl (by kernel_rfl) (by kernel_rfl) rfl NewT.trans (NewT.drew _) (Nat.le_of_ble_eq_true rfl) ⟨?_, ?_, ?_, ?_, ?_, ?_, ?_, trivial⟩ ?_
      · exact fun a wx hT hF K hK => rely_wp rfl (opr_sliceH rfl hF.1 (hK _ _ (NewT.refl _) (rd_rowH (hT.row R3.out) (by decide) (fun j hj => by rw [Nat.zero_add]))))
      · exact fun a wx hT hF K hK => rely_wp rfl (opr_move (.inl rfl) (hK _ _ (NewT.refl _) hF.1))
      · exact fun a wx hT hF K hK => rely_wp rfl (opr_move (.inl rfl) (hK _ _ (NewT.refl _) hF.1))
      · intro a wx hT hF K hK
        obtain ⟨f12, f13, _⟩ := hF
        have f12 : a.tmps.getD 12 undef = va := f12
        have f13 : a.tmps.getD 13 undef = .int .i64 ((k : Int)) := f13
        refine rely_wp rfl ?_
        exact opr_idxT (i := k) (l := s) (HX.out) (rfl) rfl (by rw [eval_tmp, f12]; exact (hT.partsL HA.out)) f13 (fun v hv => hK v _ (NewT.refl _) hv)
      · exact fun a wx hT hF K hK => rely_wp rfl (opr_ldT rfl hF.1 (fun u hu => hK u _ (NewT.refl _) hu))
      · exact fun a wx hT hF K hK => rely_wp rfl (opr_bs2 rfl hF.1 hF.2.1 hK)
      · exact fun a wx hT hF K hK => rely_wp rfl (opr_cv (ROf_cv 5 _ [digL (d), s] (nx (d) (s)) wx (hT.tables (HN.out.tables HT.out)) hF.1 (by simp) (by simp [digL_length]; have := HSN.out; omega) (hX.of _ _)) rfl Tryd.func40 (by kernel_rfl) (by kernel_rfl) (evs2 rfl rfl) hK)
      · intro wc kc
        intro _ _
        iterate 2 (intro u h; obtain rfl := Eq.symm (h (by simp)); clear h)
        iterate 3 (intro _ _)
        intro u h; obtain rfl := Eq.symm (h (by simp)); clear h
        refine relyEnd_nil rfl ?_
        simp only [Act.put, List.setIfInBounds_toArray, List.set_cons_zero, List.set_cons_succ]
        refine opr_putm (F := bF (nx d s)) rfl rfl rfl (kc.row R3.out) (by decide) info31 (fun _ => rfl) (fun i hi => by rw [if_pos (by omega), Nat.sub_zero]) ?_
        intro w9 hR9 r9
        go_simp
        have R3' := Lib.hid r9
        have R2' := Lib.hid (hR9.row (by omega) (kc.row R2.out))
        have HN' := Lib.hid (NewT.rt (NewT.trans _ _ _ HN.out kc) hR9 (by omega))
        clear r9 hR9 kc R3 R2 HN HA
        subst ea
        go_wp2
        go_roundw
        case rel => exact ⟨k + 1, nx d s, by omega, by go_num, R3', R2', Lib.hid (by rw [HTK.out, chL_snoc, HD.out]), HN'⟩
        case measure => simp [intOf]; omega
    · obtain rfl : k = ls.length := by omega
      have hld := HD.out
      rw [List.take_length] at hld
      go_upto_region 6 with fail
      refine wp_region_lit ?_
      refine wpList_plain rfl (fun K hK => ?_)
      refine opr_load_hash rfl rfl R3.out (hK _ _ ?_)
      clear hK K
      simp only [Act.put, List.setIfInBounds_toArray, List.set_cons_zero, List.set_cons_succ]
      refine wpList_plain rfl (fun K hK => ?_)
      refine opr_putm (g := w.heap.size) (o0 := 0) (m := 32) (f := bF d) (F := bF d) rfl rfl rfl R2.out (by decide) info31 (fun _ => rfl) (fun i hi => by rw [if_pos (by omega), Nat.sub_zero]) ?_
      intro w9 hR9 r9
      refine hK _ _ ?_
      refine wpList_end rfl ?_
      simp only [Act.put, List.setIfInBounds_toArray, List.set_cons_zero, List.set_cons_succ]
      go_simp
      go_wp2
      rw [hld]
      exact bodyPost_ret (results_row rfl _ rfl r9 Tryd.underlying48 info31) rfl ⟨_, rfl, NewT.rt HN.out hR9 (Nat.le_refl _), rfl⟩
end Go.Proofs.YtbejolbknimmmaaDoor
/- The reference's disk in memory: its row, the bytes that its fields read as; regions that it goes through. -/
namespace Go.Proofs.YtbejolbknimmmaaDoor
open Go Go.RowKit
set_option maxRecDepth 8000
set_option linter.all false
/-- The reference's disk: bytes that last, bytes that don't yet, how many there is room for. -/
def rdF (vd vl : Value) (z : Nat) (i : Nat) : Value := if i = 0 then vd else if i = 1 then vl else .int .i64 (z : Int)
/-- Block g is the reference's disk; what its fields read as lies outside of g and of M. -/
structure RefAt (w : World) (g : Nat) (M : List Nat) (vd vl : Value) (z : Nat) (D L : List UInt8) : Prop where
  row : w.rowIs g 35 3 (rdF vd vl z)
  done : RdV w (g :: M) vd D
  late : RdV w (g :: M) vl L
  fits : D.length + L.length ≤ 65536
  room : z ≤ 65536
section
variable {a : Act} {w : World} {o : Oper} {K : Act → World → Prop} {Q : Exit → Act → World → Prop} {x y : Operand} {g : Nat}
theorem opr_fldD0 (ho : o.op = .fieldAddr 35 x 0) (hx : a.eval x = .pointer (some ⟨g, 0, none⟩)) (h : K (a.put o.dst (.pointer (some ⟨g, 0, none⟩))) w) : o.wp Tryd.prog a w K Q :=
  opr_fld Tryd.underlying35 rfl info_sb1 ho hx (by rfl) h
theorem opr_fldD1 (ho : o.op = .fieldAddr 35 x 1) (hx : a.eval x = .pointer (some ⟨g, 0, none⟩)) (h : K (a.put o.dst (.pointer (some ⟨g, 1, none⟩))) w) : o.wp Tryd.prog a w K Q :=
  opr_fld Tryd.underlying35 rfl info_sb1 ho hx (by rfl) h
theorem opr_fldD2 (ho : o.op = .fieldAddr 35 x 2) (hx : a.eval x = .pointer (some ⟨g, 0, none⟩)) (h : K (a.put o.dst (.pointer (some ⟨g, 2, none⟩))) w) : o.wp Tryd.prog a w K Q :=
  opr_fld Tryd.underlying35 rfl info_int ho hx (by rfl) h
end
end Go.Proofs.YtbejolbknimmmaaDoor
/- The reference's disk: what its calls do. -/
namespace Go.Proofs.YtbejolbknimmmaaDoor
open Go Go.RowKit
set_option maxRecDepth 8000
set_option linter.all false
set_option maxHeartbeats 1000000 in
theorem RBytes_cv (g : Nat) (M : List Nat) (vd vl : Value) (z : Nat) (D L : List UInt8) (w : World) (h : RefAt w g M vd vl z D L) : Cv 26 #[.pointer (some ⟨g, 0, none⟩)] w (svFr w.heap.size (D ++ L)) := by
  unfold Cv
  have HF := Lib.hid h
  obtain ⟨CC, hCC⟩ := hid_ex (D ++ L)
  have HC1 : Hid ([] ++ D <+: CC) := Lib.hid (by rw [← hCC.out]; simp)
  have HC2 : Hid (([] ++ D) ++ L <+: CC) := Lib.hid (by rw [← hCC.out]; simp)
  have HCl : Hid (CC.length ≤ 1000000) := Lib.hid (by have := h.fits; rw [← hCC.out, List.length_append]; omega)
  clear h
  go_enter Tryd.func26, Tryd.ntmps26
  go_upto_region 1 with fail
  refine wp_region_rely (AppT w.heap.size CC) [svAp w.heap.size CC ([]), SV.eq (.pointer (some ⟨g, 0, none⟩)), SV.eq (.pointer (some ⟨g, 0, none⟩)), SV.eq (.pointer (some ⟨g, 0, none⟩)), SV.eq (vd), svAp w.heap.size CC ([] ++ D), SV.eq (.pointer (some ⟨g, 0, none⟩)), SV.eq (.pointer (some ⟨g, 0, none⟩)), SV.eq (.pointer (some ⟨g, 1, none⟩)), SV.eq (vl), svAp w.heap.size CC (([] ++ D) ++ L)] [([], none), ([(0, none)], none), ([(4, some 1)], none), ([(5, some 2)], none), ([(6, some 3)], none), ([(3, some 0), (7, some 4)], none), ([(0, none)], none), ([(9, some 6)], none), ([(10, some 7)], none), ([(11, some 8)], none), ([(8, some 5), (12, some 9)], none)] 14 rfl (by kernel_rfl) rfl (by kernel_rfl) (by kernel_rfl) rfl AppT.trans (AppT.drew _) (Nat.le_of_ble_eq_true rfl) ⟨?_, ?_, ?_, ?_, ?_, ?_, ?_, ?_, ?_, ?_, ?_, trivial⟩ ?_
  · exact fun a wx hT hF K hK => rely_wp rfl (opr_bs0 hT.below.size rfl hK)
  · exact fun a wx hT hF K hK => rely_wp rfl (opr_move (.inl rfl) (hK _ _ (AppT.refl _) hF.1))
  · exact fun a wx hT hF K hK => rely_wp rfl (opr_nilc rfl hF.1 (hK _ _ (AppT.refl _) rfl))
  · exact fun a wx hT hF K hK => rely_wp rfl (opr_fldD0 rfl hF.1 (hK _ _ (AppT.refl _) rfl))
  · exact fun a wx hT hF K hK => rely_wp rfl (opr_ldB (NewT.row (NewT.of hT.below) HF.out.row) (by decide) rfl rfl hF.1 (hK _ _ (AppT.refl _) rfl))
  · intro a wx hT hF K hK
    obtain ⟨f3, f7, _⟩ := hF
    replace f3 := show (svAp w.heap.size CC ([])).pred (a.tmps.getD 3 undef) wx from f3
    have f7 : a.tmps.getD 7 undef = vd := f7
    refine rely_wp rfl ?_
    exact opr_appB (l := []) (m := D) hT.below.size (HC1.out) HCl.out rfl f3 (by rw [eval_tmp, f7]; exact NewT.rd (NewT.of hT.below) HF.out.done) hK
  · exact fun a wx hT hF K hK => rely_wp rfl (opr_move (.inl rfl) (hK _ _ (AppT.refl _) hF.1))
  · exact fun a wx hT hF K hK => rely_wp rfl (opr_nilc rfl hF.1 (hK _ _ (AppT.refl _) rfl))
  · exact fun a wx hT hF K hK => rely_wp rfl (opr_fldD1 rfl hF.1 (hK _ _ (AppT.refl _) rfl))
  · exact fun a wx hT hF K hK => rely_wp rfl (opr_ldB (NewT.row (NewT.of hT.below) HF.out.row) (by decide) rfl rfl hF.1 (hK _ _ (AppT.refl _) rfl))
  · intro a wx hT hF K hK
    obtain ⟨f8, f12, _⟩ := hF
    replace f8 := show (svAp w.heap.size CC ([] ++ D)).pred (a.tmps.getD 8 undef) wx from f8
    have f12 : a.tmps.getD 12 undef = vl := f12
    refine rely_wp rfl ?_
    exact opr_appB (l := ([] ++ D)) (m := L) hT.below.size (HC2.out) HCl.out rfl f8 (by rw [eval_tmp, f12]; exact NewT.rd (NewT.of hT.below) HF.out.late) hK
  · intro wx hT
    intro _ _
    iterate 4 (intro u h; obtain rfl := Eq.symm (h (by simp)); clear h)
    intro _ _
    iterate 4 (intro u h; obtain rfl := Eq.symm (h (by simp)); clear h)
    intro u13 h; have g13 := h (by simp); clear h; replace g13 := show (svAp w.heap.size CC (([] ++ D) ++ L)).pred u13 wx from g13
    refine relyEnd_nil rfl ?_
    simp only [Act.put, List.setIfInBounds_toArray, List.set_cons_zero, List.set_cons_succ]
    refine opr_move (.inr rfl) ?_
    go_simp
    go_wp2
    go_ret
    refine ⟨_, rfl, NewT.of hT.below, ?_⟩
    have := OwnB.fresh g13.2
    rw [List.nil_append] at this
    exact this
set_option maxHeartbeats 1000000 in
theorem RSync_c (g : Nat) (M : List Nat) (vd vl : Value) (z : Nat) (D L : List UInt8) (w : World) (h : RefAt w g M vd vl z D L) (hM : ∀ k ∈ g :: M, k < w.heap.size) : Calls Tryd.prog 16 #[.pointer (some ⟨g, 0, none⟩)] w fun e w' => e = .returned (.tuple #[]) ∧ ∃ vd', RT g w w' ∧ RefAt w' g M vd' (.slice none 0 0) z (D ++ L) [] := by
  have HF := Lib.hid h
  have HM := Lib.hid hM
  obtain ⟨CC, hCC⟩ := hid_ex (D ++ L)
  have HC1 : Hid ([] ++ D <+: CC) := Lib.hid (by rw [← hCC.out]; simp)
  have HC2 : Hid (([] ++ D) ++ L <+: CC) := Lib.hid (by rw [← hCC.out]; simp)
  have HCl : Hid (CC.length ≤ 1000000) := Lib.hid (by have := h.fits; rw [← hCC.out, List.length_append]; omega)
  clear h hM
  go_enter Tryd.func16, Tryd.ntmps16
  go_upto_region 0 with fail
  refine wp_region_rely (AppT w.heap.size CC) [SV.eq (.pointer (some ⟨g, 0, none⟩)), svAp w.heap.size CC ([]), SV.eq (.pointer (some ⟨g, 0, none⟩)), SV.eq (.pointer (some ⟨g, 0, none⟩)), SV.eq (.pointer (some ⟨g, 0, none⟩)), SV.eq (vd), svAp w.heap.size CC ([] ++ D), SV.eq (.pointer (some ⟨g, 0, none⟩)), SV.eq (.pointer (some ⟨g, 0, none⟩)), SV.eq (.pointer (some ⟨g, 1, none⟩)), SV.eq (vl), svAp w.heap.size CC (([] ++ D) ++ L), SV.eq (.pointer (some ⟨g, 0, none⟩)), SV.eq (.pointer (some ⟨g, 0, none⟩))] [([(0, none)], none), ([], none), ([(0, none)], none), ([(4, some 2)], none), ([(5, some 3)], none), ([(6, some 4)], none), ([(3, some 1), (7, some 5)], none), ([(0, none)], none), ([(9, some 7)], none), ([(10, some 8)], none), ([(11, some 9)], none), ([(8, some 6), (12, some 10)], none), ([(2, some 0)], none), ([(14, some 12)], none)] 19 rfl (by kernel_rfl) rfl (by kernel_rfl) (by kernel_rfl) rfl AppT.trans (AppT.drew _) (Nat.le_of_ble_eq_true rfl) ⟨?_, ?_, ?_, ?_, ?_, ?_, ?_, ?_, ?_, ?_, ?_, ?_, ?_, ?_, trivial⟩ ?_
  · exact fun a wx hT hF K hK => rely_wp rfl (opr_move (.inl rfl) (hK _ _ (AppT.refl _) hF.1))
  · exact fun a wx hT hF K hK => rely_wp rfl (opr_bs0 hT.below.size rfl hK)
  · exact fun a wx hT hF K hK => rely_wp rfl (opr_move (.inl rfl) (hK _ _ (AppT.refl _) hF.1))
  · exact fun a wx hT hF K hK => rely_wp rfl (opr_nilc rfl hF.1 (hK _ _ (AppT.refl _) rfl))
  · exact fun a wx hT hF K hK => rely_wp rfl (opr_fldD0 rfl hF.1 (hK _ _ (AppT.refl _) rfl))
  · exact fun a wx hT hF K hK => rely_wp rfl (opr_ldB (NewT.row (NewT.of hT.below) HF.out.row) (by decide) rfl rfl hF.1 (hK _ _ (AppT.refl _) rfl))
  · intro a wx hT hF K hK
    obtain ⟨f3, f7, _⟩ := hF
    replace f3 := show (svAp w.heap.size CC ([])).pred (a.tmps.getD 3 undef) wx from f3
    have f7 : a.tmps.getD 7 undef = vd := f7
    refine rely_wp rfl ?_
    exact opr_appB (l := []) (m := D) hT.below.size (HC1.out) HCl.out rfl f3 (by rw [eval_tmp, f7]; exact NewT.rd (NewT.of hT.below) HF.out.done) hK
  · exact fun a wx hT hF K hK => rely_wp rfl (opr_move (.inl rfl) (hK _ _ (AppT.refl _) hF.1))
  · exact fun a wx hT hF K hK => rely_wp rfl (opr_nilc rfl hF.1 (hK _ _ (AppT.refl _) rfl))
  · exact fun a wx hT hF K hK => rely_wp rfl (opr_fldD1 rfl hF.1 (hK _ _ (AppT.refl _) rfl))
  · exact fun a wx hT hF K hK => rely_wp rfl (opr_ldB (NewT.row (NewT.of hT.below) HF.out.row) (by decide) rfl rfl hF.1 (hK _ _ (AppT.refl _) rfl))
  · intro a wx hT hF K hK
    obtain ⟨f8, f12, _⟩ := hF
    replace f8 := show (svAp w.heap.size CC ([] ++ D)).pred (a.tmps.getD 8 undef) wx from f8
    have f12 : a.tmps.getD 12 undef = vl := f12
    refine rely_wp rfl ?_
    exact opr_appB (l := ([] ++ D)) (m := L) hT.below.size (HC2.out) HCl.out rfl f8 (by rw [eval_tmp, f12]; exact NewT.rd (NewT.of hT.below) HF.out.late) hK
  · exact fun a wx hT hF K hK => rely_wp rfl (opr_nilc rfl hF.1 (hK _ _ (AppT.refl _) rfl))
  · exact fun a wx hT hF K hK => rely_wp rfl (opr_fldD0 rfl hF.1 (hK _ _ (AppT.refl _) rfl))
  · intro w5 k5
    intro u h; obtain rfl := Eq.symm (h (by simp)); clear h
    intro _ _
    iterate 4 (intro u h; obtain rfl := Eq.symm (h (by simp)); clear h)
    intro _ _
    iterate 4 (intro u h; obtain rfl := Eq.symm (h (by simp)); clear h)
    intro u13 h; have g13 := h (by simp); clear h; replace g13 := show (svAp w.heap.size CC (([] ++ D) ++ L)).pred u13 w5 from g13
    iterate 2 (intro u h; obtain rfl := Eq.symm (h (by simp)); clear h)
    refine relyEnd_nil rfl ?_
    simp only [Act.put, List.setIfInBounds_toArray, List.set_cons_zero, List.set_cons_succ]
    refine opr_put1 (v := u13) (F := rdF u13 vl z) rfl rfl rfl ((NewT.of k5.below).row HF.out.row) (by decide) info_sb1 g13.2.one (fun i hi => by simp only [rdF]; split <;> simp_all) ?_
    intro w6 hR6 r6
    have c1 := r6.cell (i := 1) (by omega)
    have f1 := r6.frozen 1
    have E13 := Lib.hid g13
    clear g13
    go_simp
    go_wp2
    go_end0
    have hg := HM.out g (by simp)
    have hR : RT g w w6 := RT.trans _ _ _ (RT.new hg (NewT.of k5.below)) hR6
    have hR7 := RT.setCell (R := g) w6 1 (Value.slice none 0 0)
    have hfr := OwnB.fresh E13.out.2
    rw [List.nil_append] at hfr
    refine ⟨rfl, RT.trans _ _ _ hR hR7, u13, (r6.set 1 _).congr fun i hi => ?_, ?_, rdV_nil _ _, by simpa using HF.out.fits, HF.out.room⟩
    · have : i = 0 ∨ i = 1 ∨ i = 2 := by omega
      rcases this with rfl | rfl | rfl <;> simp [rdF]
    · exact ((hfr.rdL HM.out).keep ((hR6.keep.trans hR7.keep).more (by simp)))
end Go.Proofs.YtbejolbknimmmaaDoor
/- Bytes of a beginning; what lies beside a disk. -/
namespace Go.Proofs.YtbejolbknimmmaaDoor
open Go Go.RowKit
set_option maxRecDepth 8000
set_option linter.all false
/-- A slice's beginning. -/
theorem rd_begin {w : World} {L : List Nat} {A : Option Addr} {n cap m : Nat} {l : List UInt8} (h : RdV w L (.slice A n cap) l) (hm : m ≤ l.length) : RdV w L (.slice A m cap) (l.take m) := by
  obtain ⟨A', c', hv, h1, h2, h3⟩ := h
  cases hv
  have hl : (l.take m).length = m := by rw [List.length_take]; omega
  refine ⟨A, cap, by rw [hl], by omega, h2, fun h0 => ?_⟩
  obtain ⟨b, o, hA, hb, hc⟩ := h3 (by omega)
  refine ⟨b, o, hA, hb, fun i hi => ?_⟩
  rw [hc i (by omega)]
  simp [bAt, List.getElem?_take, show i < m by omega]
theorem rd_cap {w : World} {L : List Nat} {A : Option Addr} {n c : Nat} {l : List UInt8} (h : RdV w L (.slice A n c) l) : l.length ≤ c := by
  obtain ⟨A', c', hv, h1, _⟩ := h
  cases hv; exact h1
/-- What is new lies beside the disk. -/
theorem DiskAt.beside {w w' : World} {g : Nat} {v : Value} {room : Nat} {S : List UInt8} {n : Nat} (h : DiskAt w g v room S n) {u : Value} {l : List UInt8} (hf : FreshB w.heap.size w' u l) : RdV w' (g :: v.ownBlock.toList) u l :=
  hf.rdL fun k hk => by
    rcases List.mem_cons.1 hk with rfl | hk
    · exact h.lt
    · exact (h.own.lt k (by simpa using hk)).2
theorem rd_any {w : World} {L : List Nat} {u : Value} {l : List UInt8} (h : RdV w L u l) : RdV w [] u l := h.more fun _ _ _ => by simp
end Go.Proofs.YtbejolbknimmmaaDoor
/- The reference's disk: Crash, Cut, Write. -/
namespace Go.Proofs.YtbejolbknimmmaaDoor
open Go Go.RowKit
set_option maxRecDepth 8000
set_option linter.all false
theorem RefAt.c0 {w : World} {g : Nat} {M : List Nat} {vd vl : Value} {z : Nat} {D L : List UInt8} (h : RefAt w g M vd vl z D L) : w.cell? ⟨g, 0, none⟩ = some vd := h.row.cell (i := 0) (by omega)
theorem RefAt.c1 {w : World} {g : Nat} {M : List Nat} {vd vl : Value} {z : Nat} {D L : List UInt8} (h : RefAt w g M vd vl z D L) : w.cell? ⟨g, 1, none⟩ = some vl := h.row.cell (i := 1) (by omega)
theorem RefAt.c2 {w : World} {g : Nat} {M : List Nat} {vd vl : Value} {z : Nat} {D L : List UInt8} (h : RefAt w g M vd vl z D L) : w.cell? ⟨g, 2, none⟩ = some (.int .i64 (z : Int)) := h.row.cell (i := 2) (by omega)
theorem RefAt.new {w w' : World} {g : Nat} {M : List Nat} {vd vl : Value} {z : Nat} {D L : List UInt8} (h : RefAt w g M vd vl z D L) (hN : NewT w w') : RefAt w' g M vd vl z D L := ⟨hN.row h.row, hN.rd h.done, hN.rd h.late, h.fits, h.room⟩
/-- The bytes that don't last yet are others. -/
theorem RefAt.set1 {w : World} {g : Nat} {M : List Nat} {vd vl v : Value} {z : Nat} {D L K : List UInt8} (h : RefAt w g M vd vl z D L) (hv : RdV w (g :: M) v K) (hf : D.length + K.length ≤ 65536) : RefAt (w.setCell ⟨g, 1, none⟩ v) g M vd v z D K := by
  have hR := (RT.setCell (R := g) w 1 v).keep.more (L' := g :: M) (by simp)
  refine ⟨(h.row.set 1 _).congr fun i hi => ?_, h.done.keep hR, hv.keep hR, hf, h.room⟩
  have : i = 0 ∨ i = 1 ∨ i = 2 := by omega
  rcases this with rfl | rfl | rfl <;> simp [rdF]
theorem RefAt.set0 {w : World} {g : Nat} {M : List Nat} {vd vl v : Value} {z : Nat} {D L K : List UInt8} (h : RefAt w g M vd vl z D L) (hv : RdV w (g :: M) v K) (hf : K.length + L.length ≤ 65536) : RefAt (w.setCell ⟨g, 0, none⟩ v) g M v vl z K L := by
  have hR := (RT.setCell (R := g) w 0 v).keep.more (L' := g :: M) (by simp)
  refine ⟨(h.row.set 0 _).congr fun i hi => ?_, hv.keep hR, h.late.keep hR, hf, h.room⟩
  have : i = 0 ∨ i = 1 ∨ i = 2 := by omega
  rcases this with rfl | rfl | rfl <;> simp [rdF]
theorem take_toNat {L : List UInt8} {k : Int} (h : (L.length : Int) ≤ k) : L.take k.toNat = L := List.take_of_length_le (by omega)
set_option maxHeartbeats 1000000 in
theorem RCrash_c (g : Nat) (M : List Nat) (vd vl : Value) (z : Nat) (D L : List UInt8) (keep : Int) (w : World) (h : RefAt w g M vd vl z D L) (hM : ∀ k ∈ g :: M, k < w.heap.size) :
    Calls Tryd.prog 19 #[.pointer (some ⟨g, 0, none⟩), .int .i64 keep] w fun e w' => e = .returned (.tuple #[]) ∧ ∃ vd', RT g w w' ∧ RefAt w' g M vd' (.slice none 0 0) z (D ++ L.take keep.toNat) [] := by
  have c1 := h.c1
  have f1 := h.row.frozen 1
  have H := Lib.hid h
  have HM := Lib.hid hM
  obtain ⟨A, c, rfl, hc, _⟩ := h.late
  clear h hM
  by_cases h1 : keep < 0
  · by_cases h2 : (0 : Int) < (L.length : Int)
    · obtain ⟨q, hq⟩ : ∃ q : Nat, 0 = q := ⟨0, rfl⟩
      have hs := slice_to A L.length c q (by omega)
      rw [← hq] at hs
      have hs' : ∀ w : World, (Instr.slice 33 (.slice A L.length c) none (some (.int .i64 0)) none).run Tryd.prog w = .ok (.slice A 0 c) w := hs
      have HR := Lib.hid (RefAt.set1 (K := L.take 0) H.out (rd_begin H.out.late (Nat.zero_le _)) (by have := H.out.fits; simp; omega))
      clear hs hq
      go_enter Tryd.func19, Tryd.ntmps19
      go_wp2_with (go_at_call 16; refine (RSync_c g M vd _ z D _ _ HR.out (fun k hk => Nat.lt_of_lt_of_le (HM.out k hk) (RT.setCell w 1 _).size)).mono ?_; rintro _ w2 ⟨rfl, vd', hT, hA⟩)
      go_end0
      exact ⟨rfl, vd', RT.trans _ _ _ (RT.setCell w 1 _) hT, by rw [show keep.toNat = 0 by omega]; exact hA⟩
    · have h0 : L.length = 0 := by omega
      go_enter Tryd.func19, Tryd.ntmps19
      go_wp2_with (go_at_call 16; refine (RSync_c g M vd _ z D _ _ H.out HM.out).mono ?_; rintro _ w2 ⟨rfl, vd', hT, hA⟩)
      go_end0
      exact ⟨rfl, vd', hT, by rw [List.eq_nil_of_length_eq_zero h0] at hA ⊢; simpa using hA⟩
  · by_cases h2 : keep < (L.length : Int)
    · obtain ⟨k, rfl⟩ : ∃ k : Nat, keep = k := ⟨keep.toNat, by omega⟩
      have hs := slice_to A L.length c k (by omega)
      have HR := Lib.hid (RefAt.set1 (K := L.take k) H.out (rd_begin H.out.late (by omega)) (by have := H.out.fits; simp; omega))
      go_enter Tryd.func19, Tryd.ntmps19
      go_wp2_with (go_at_call 16; refine (RSync_c g M vd _ z D _ _ HR.out (fun k hk => Nat.lt_of_lt_of_le (HM.out k hk) (RT.setCell w 1 _).size)).mono ?_; rintro _ w2 ⟨rfl, vd', hT, hA⟩)
      go_end0
      exact ⟨rfl, vd', RT.trans _ _ _ (RT.setCell w 1 _) hT, by simpa using hA⟩
    · go_enter Tryd.func19, Tryd.ntmps19
      go_wp2_with (go_at_call 16; refine (RSync_c g M vd _ z D _ _ H.out HM.out).mono ?_; rintro _ w2 ⟨rfl, vd', hT, hA⟩)
      go_end0
      exact ⟨rfl, vd', hT, by rw [take_toNat (by omega)]; exact hA⟩
set_option maxHeartbeats 1000000 in
theorem RCut_bad (g : Nat) (M : List Nat) (vd vl : Value) (z : Nat) (D L : List UInt8) (n : Int) (w : World) (h : RefAt w g M vd vl z D L) (hn : n < 0 ∨ ((D ++ L).length : Int) < n) : Cv 35 #[.pointer (some ⟨g, 0, none⟩), .int .i64 n] w (.eq (.int .i64 1)) := by
  unfold Cv
  have H := Lib.hid h
  clear h
  by_cases h1 : n < 0
  · clear hn
    go_enter Tryd.func35, Tryd.ntmps35
    go_wp2_with (go_at_call 26; refine Calls.mono (RBytes_cv g M vd vl z D L w H.out) ?_; rintro _ w1 ⟨v1, rfl, hN, hv⟩; obtain ⟨A1, c1, rfl⟩ := rdV_form (FreshB.rd hv))
    go_ret
    exact ⟨_, rfl, hN, rfl⟩
  · have h2 : ((D ++ L).length : Int) < n := by omega
    clear hn
    obtain ⟨S, hS⟩ := hid_ex (D ++ L)
    rw [hS.out] at h2
    go_enter Tryd.func35, Tryd.ntmps35
    go_wp2_with (go_at_call 26; refine Calls.mono (RBytes_cv g M vd vl z D L w H.out) ?_; rw [hS.out]; rintro _ w1 ⟨v1, rfl, hN, hv⟩; obtain ⟨A1, c1, rfl⟩ := rdV_form (FreshB.rd hv))
    go_ret
    exact ⟨_, rfl, hN, rfl⟩
set_option maxHeartbeats 1000000 in
theorem RCut_ok (g : Nat) (M : List Nat) (vd vl : Value) (z : Nat) (D L : List UInt8) (n : Nat) (w : World) (h : RefAt w g M vd vl z D L) (hM : ∀ k ∈ g :: M, k < w.heap.size) (hn : n ≤ (D ++ L).length) :
    Calls Tryd.prog 35 #[.pointer (some ⟨g, 0, none⟩), .int .i64 (n : Int)] w fun e w' => e = .returned (.int .i64 0) ∧ ∃ vd', RT g w w' ∧ RefAt w' g M vd' (.slice none 0 0) z ((D ++ L).take n) [] := by
  have H := Lib.hid h
  have HM := Lib.hid hM
  have hfit : Hid ((D ++ L).length ≤ 65536) := Lib.hid (by have := h.fits; simpa using this)
  obtain ⟨S, hS⟩ := hid_ex (D ++ L)
  rw [hS.out] at hn hfit ⊢
  have Hn := Lib.hid hn
  have h1 : ¬ (n : Int) < 0 := by omega
  have h2 : ¬ (S.length : Int) < (n : Int) := by omega
  clear h hM hn
  go_enter Tryd.func35, Tryd.ntmps35
  go_wp2_with (go_at_call 26; refine Calls.mono (RBytes_cv g M vd vl z D L w H.out) ?_; rw [hS.out]; rintro _ w1 ⟨v1, rfl, hN, hv⟩; obtain ⟨A1, c1, rfl⟩ := rdV_form (FreshB.rd hv); have hb := FreshB.rdL (show FreshB w.heap.size w1 _ S from hv) HM.out; have cc := rd_cap hb; have hs := slice_to A1 S.length c1 n (Nat.le_trans Hn.out cc); have HB := Lib.hid (rd_begin hb Hn.out); have H1 := Lib.hid (H.out.new hN); have f0 := H1.out.row.frozen 0; have f1 := H1.out.row.frozen 1; have c0 := H1.out.c0; have c1' := H1.out.c1; have N1 : Hid (NewT w w1) := Lib.hid hN; clear hv hb cc hN)
  go_ret
  have hR := RT.setCell (R := g) w1 0 (Value.slice A1 n c1)
  have hR2 := RT.setCell (R := g) (w1.setCell ⟨g, 0, none⟩ (Value.slice A1 n c1)) 1 (Value.slice none 0 0)
  have hg := HM.out g (by simp)
  have q : (S.take n).length + L.length ≤ 131072 := by have := hfit.out; have := H.out.fits; simp; omega
  have hrow := ((H1.out.row.set 0 (Value.slice A1 n c1)).set 1 (Value.slice none 0 0))
  refine ⟨rfl, _, RT.trans _ _ _ (RT.new hg N1.out) (RT.trans _ _ _ hR hR2), hrow.congr fun i hi => ?_, (HB.out.keep ((hR.keep.trans hR2.keep).more (by simp))), rdV_nil _ _, by have := hfit.out; simp; omega, H.out.room⟩
  have : i = 0 ∨ i = 1 ∨ i = 2 := by omega
  rcases this with rfl | rfl | rfl <;> simp [rdF]
set_option maxHeartbeats 1000000 in
theorem RWrite_full (g : Nat) (M : List Nat) (vd vl u : Value) (z : Nat) (D L l : List UInt8) (w : World) (h : RefAt w g M vd vl z D L) (hu : RdV w [] u l) (hl : l.length ≤ 100000) (hz : z < D.length + L.length + l.length) : Cv 38 #[.pointer (some ⟨g, 0, none⟩), u] w (.eq (.int .i64 5)) := by
  unfold Cv
  have c0 := h.c0
  have c1 := h.c1
  have c2 := h.c2
  have hf := h.fits
  obtain ⟨A0, k0, rfl, _⟩ := h.done
  obtain ⟨A1, k1, rfl, _⟩ := h.late
  obtain ⟨A2, k2, rfl, _⟩ := hu
  clear h
  have e1 : IntKind.i64.wrap ((D.length : Int) + (L.length : Int)) = ((D.length + L.length : Nat) : Int) := IntWalk.i64_in _ (by omega)
  have e2 : IntKind.i64.wrap (((D.length + L.length : Nat) : Int) + (l.length : Int)) = ((D.length + L.length + l.length : Nat) : Int) := IntWalk.i64_in _ (by omega)
  have h3 : (z : Int) < ((D.length + L.length + l.length : Nat) : Int) := by omega
  generalize D.length + L.length + l.length = q at *
  generalize D.length + L.length = p at *
  clear hf hz hl
  go_enter Tryd.func38, Tryd.ntmps38
  go_wp2
  refine wp_region_still_lit (by kernel_rfl) (by kernel_rfl) ?_
  repeat (refine wpStill_step (fun K hK => ?_); go_simp; refine hK _ ?_; clear hK K)
  refine wpStill_nil ?_
  go_wp2
  go_ret
  exact ⟨_, rfl, NewT.drew _, rfl⟩
set_option maxHeartbeats 1000000 in
theorem RWrite_ok (g : Nat) (M : List Nat) (vd vl u : Value) (z : Nat) (D L l : List UInt8) (w : World) (h : RefAt w g M vd vl z D L) (hM : ∀ k ∈ g :: M, k < w.heap.size) (hu : RdV w [] u l) (hz : D.length + L.length + l.length ≤ z) :
    Calls Tryd.prog 38 #[.pointer (some ⟨g, 0, none⟩), u] w fun e w' => e = .returned (.int .i64 0) ∧ ∃ vl', RT g w w' ∧ RefAt w' g M vd vl' z D (L ++ l) := by
  have c0 := h.c0
  have c1 := h.c1
  have c2 := h.c2
  have hzr := h.room
  have HM := Lib.hid hM
  have HU := Lib.hid (hu.keep (KeepBut.drew w))
  have HD := Lib.hid (h.new (NewT.drew w))
  have bnd : Hid (D.length + L.length + l.length ≤ 65536) := Lib.hid (by omega)
  obtain ⟨A0, k0, rfl, _⟩ := h.done
  obtain ⟨A1, k1, rfl, _⟩ := h.late
  obtain ⟨A2, k2, rfl, _⟩ := hu
  clear h hM
  have e1 : IntKind.i64.wrap ((D.length : Int) + (L.length : Int)) = ((D.length + L.length : Nat) : Int) := IntWalk.i64_in _ (by omega)
  have e2 : IntKind.i64.wrap (((D.length + L.length : Nat) : Int) + (l.length : Int)) = ((D.length + L.length + l.length : Nat) : Int) := IntWalk.i64_in _ (by omega)
  have h3 : ¬ (z : Int) < ((D.length + L.length + l.length : Nat) : Int) := by omega
  obtain ⟨q, hq⟩ := hid_ex (D.length + L.length + l.length)
  obtain ⟨p, hp⟩ := hid_ex (D.length + L.length)
  rw [hq.out] at e2 h3
  rw [hp.out] at e1 e2
  clear hzr hz
  go_enter Tryd.func38, Tryd.ntmps38
  go_wp2
  refine wp_region_still_lit (by kernel_rfl) (by kernel_rfl) ?_
  repeat (refine wpStill_step (fun K hK => ?_); go_simp; refine hK _ ?_; clear hK K)
  refine wpStill_nil ?_
  clear e1 e2 c0 c1 c2
  change Exit.then _ _ Exit.normal _ w.drew
  have c1 := HD.out.c1
  have N0 : Hid (NewT w w.drew) := Lib.hid (NewT.drew w)
  have t1 : Hid True := Lib.hid trivial
  generalize w.drew = wd at *
  have HD1 := Lib.hid (HD.out.new (NewT.alloc wd (.cells #[] 5)))
  have HU1 := Lib.hid ((NewT.alloc wd (.cells #[] 5)).rd HU.out)
  have c1' := HD1.out.c1
  go_wp2_with (first
    | (at_builtin; clear t1
       have hlate := Lib.hid (rd_any HD1.out.late)
       obtain ⟨v3, w3, hrun, hO, hG, -⟩ := run_appB_two (ownB_empty wd) hlate.out (by have := bnd.out; simp; omega) (NewT.alloc wd _).size 33
       rw [List.nil_append] at hO
       refine wpList_plain rfl (fun K hK => ?_)
       refine opr_append rfl rfl rfl hrun (hK _ _ ?_)
       clear hK K hrun
       have hN3 : NewT wd w3 := NewT.of ((NewT.alloc wd (.cells #[] 5)).out.grown hG (NewT.alloc wd _).size (fun k e => ((ownB_empty wd).lt k e).1))
       have H3 := Lib.hid (HD.out.new hN3)
       have O3 := Lib.hid hO
       have N3 := Lib.hid hN3
       clear hO hG hN3)
    | (at_builtin
       obtain ⟨v4, w4, hrun, hO, hG, -⟩ := run_appB_two O3.out (N3.out.rd HU.out) (by have := bnd.out; omega) N3.out.out.size 33
       refine wpList_plain rfl (fun K hK => ?_)
       refine opr_append rfl rfl rfl hrun (hK _ _ ?_)
       clear hK K hrun
       have hN4 : NewT wd w4 := NewT.of (N3.out.out.grown hG N3.out.out.size (fun k e => (O3.out.lt k e).1))
       have H4 := Lib.hid (HD.out.new hN4)
       have O4 := Lib.hid hO
       have N4 := Lib.hid hN4
       have c1'' := H4.out.c1
       have f1 := H4.out.row.frozen 1
       have hone := hO.one
       obtain ⟨A4, k4, rfl, _⟩ := hO.cap
       clear hO hG hN4))
  go_ret
  have hg := HM.out g (by simp)
  have hfr := (OwnB.fresh O4.out).rdL (L := g :: M) (fun k hk => Nat.lt_of_lt_of_le (HM.out k hk) N0.out.out.size)
  refine ⟨rfl, _, RT.trans _ _ _ (RT.new hg (NewT.trans _ _ _ N0.out N4.out)) (RT.setCell _ 1 _), RefAt.set1 H4.out (by rw [← List.length_append]; exact hfr) (by have := bnd.out; simp; omega)⟩
end Go.Proofs.YtbejolbknimmmaaDoor
/- The reference's Num and Bytes, layer 3. -/
namespace Go.Proofs.YtbejolbknimmmaaDoor
open Go Go.RowKit
set_option maxRecDepth 8000
set_option linter.all false

set_option maxRecDepth 20000 in
set_option maxHeartbeats 2000000 in
theorem RefNum_in (n : Nat) (hn : n ≤ 2147483647) (w : World) : Calls Tryd.prog 57 #[.int .i64 (n : Int)] w fun e w' => ∃ v, e = .returned v ∧ Below w.heap.size w w' ∧ w'.ownsRow w.heap.size 5 1 v (numL n).length ((numL n).map fun b => .int .u8 (bN b)) := by
  induction n using Nat.strongRecOn generalizing w with
  | _ n ih =>
    by_cases h1 : n < 128
    · have e1 : numL n = [uB n] := by unfold numL; rw [if_pos h1]
      have eb := bN_uB n (by omega)
      have ho := ownsRow_row (rowIs_box w 5 1 (fun _ => .int .u8 (n : Int))) w.heap.size 1 (by omega) (by unfold maxLen; omega) (Nat.le_refl _)
      have hN : NewT w (w.alloc (.cells (rowA 1 (fun _ => .int .u8 (n : Int))) 5)) := NewT.alloc _ _
      rw [e1]
      simp only [List.length_cons, List.length_nil, List.map_cons, List.map_nil, eb]
      clear ih e1 eb
      go_enter Tryd.func57, Tryd.ntmps57
      go_wp2_with fail
      go_ret
      exact ⟨_, rfl, hN.out, ho⟩
    · obtain ⟨init, x, hx, e1, e2⟩ := numL_step n hn (by omega)
      have hw := bN_uB (x + 128) (by omega)
      have hw2 := bN_uB (n % 128) (by omega)
      have hxb := bN_uB x (by omega)
      obtain ⟨i0, hi, hz0, hz1, hz2⟩ := info_parts info5
      have H1 := Lib.hid e1
      have H2 := Lib.hid e2
      have hil : init.length ≤ 5 := by have := numL_length (n / 128); rw [e1] at this; have := sz_le (n / 128); simp at *; omega
      have IH := Lib.hid (fun w => ih (n / 128) (by omega) (by omega) w)
      have W1 := Lib.hid hw
      have W2 := Lib.hid hw2
      have W3 := Lib.hid hxb
      clear ih e1 e2 hw hw2 hxb
      generalize hil2 : init.length = m at hil
      have Hil := Lib.hid hil2
      clear hil2
      go_enter Tryd.func57, Tryd.ntmps57
      go_wp2_with (first
        | (go_at_call 57; refine (IH.out w).mono ?_; rintro _ w1 ⟨v1, rfl, hB1, ho1⟩; rw [H1.out, List.length_append, Hil.out, List.map_append] at ho1; simp only [List.length_cons, List.length_nil, List.map_cons, List.map_nil, W3.out, Nat.zero_add] at ho1; obtain ⟨g, c, rfl, hg, _⟩ := ho1.form (by omega); have k0 := ho1.cells (g := g) rfl m (.int .u8 (x : Int)) (by rw [List.getElem?_append_right (by simp [Hil.out])]; simp [Hil.out]); rw [Addr.add_mid, Nat.zero_add] at k0; have f0 := frozen_own ho1 m)
        | (at_builtin; refine wpList_append_own _ rfl (.tmp 30) (.tmp 34) 33 rfl w.heap.size 5 i0 _ 1 1 Tryd.underlying33 hi hz0 hz1 hz2 rfl (by omega) _ (m + 1) _ rfl ((ownsRow_last ho1 (.int .u8 ((x : Int) + 128))).alloc _) ⟨w1.heap.size, 0, none⟩ 1 1 [.int .u8 ((n : Int) % 128)] rfl rfl (fun j u h => by have := one_cell (w1.setCell ⟨g, m, none⟩ (.int .u8 ((x : Int) + 128))) (.int .u8 ((n : Int) % 128)) 5 j u h; simpa using this) (by simp [Value.oneCell']) (by unfold maxLen; omega) (by omega) (by have := hB1.size; simp; omega) ?_; intro v' w2 hown' hg2 _))
      go_ret
      refine ⟨_, rfl, ?_, ?_⟩
      · exact ((hB1.setCell (p := ⟨g, m, none⟩) hg _).alloc (by have := hB1.size; simp; omega) _).grown hg2 (by have := hB1.size; simp; omega) (fun k e => by cases e; exact hg)
      · rw [H2.out]
        have e : (init ++ [uB (x + 128), uB (n % 128)]).length = m + 1 + 1 := by simp [Hil.out]
        rw [e, List.map_append]
        simp only [List.map_cons, List.map_nil, W1.out, W2.out]
        simpa using hown'
set_option maxRecDepth 20000 in
set_option maxHeartbeats 400000 in
theorem RefNum_out (n : Int) (hn : ¬ (0 ≤ n ∧ n ≤ 2147483647)) (w : World) : Calls Tryd.prog 57 #[.int .i64 n] w fun e w' => e = .returned (.slice none 0 0) ∧ w' = w := by
  by_cases h0 : n < 0
  · go_enter Tryd.func57, Tryd.ntmps57
    go_wp2_with fail
    go_ret
    exact ⟨rfl, rfl⟩
  · have h1 : 2147483647 < n := by omega
    clear hn
    go_enter Tryd.func57, Tryd.ntmps57
    go_wp2_with fail
    go_ret
    exact ⟨rfl, rfl⟩
theorem RefNum_rd (n : Int) (l : List UInt8) (w : World) (h : numI n = l) : Cv 57 #[.int .i64 n] w (svRd l) := by
  subst h
  unfold numI Cv
  by_cases h : 0 ≤ n ∧ n ≤ 2147483647
  · rw [if_pos h]
    obtain ⟨m, rfl⟩ := Int.eq_ofNat_of_zero_le h.1
    exact (RefNum_in m (by omega) w).mono fun _ _ ⟨v, he, hB, ho⟩ => ⟨v, he, hB, rdV_own ho rfl (by simp)⟩
  · rw [if_neg h]
    exact (RefNum_out n h w).mono fun _ _ ⟨he, hw⟩ => ⟨_, he, NewT.of_eq hw.symm, rdV_nil _ _⟩
set_option maxHeartbeats 1000000 in
theorem RefBytes_rd (v : Value) (l : List UInt8) (w : World) (h : RdV w [] v l) (hl : l.length ≤ 900000) : Cv 47 #[v] w (svRd (numL l.length ++ l)) := by
  unfold Cv
  have Hr := Lib.hid h
  obtain ⟨A, cap, rfl, h1, h2, _⟩ := h
  have h5 : (numL l.length).length ≤ 5 := by rw [numL_length]; exact sz_le _
  obtain ⟨i0, hi, hz0, hz1, hz2⟩ := info_parts info5
  go_enter Tryd.func47, Tryd.ntmps47
  go_wp2_with (first
    | (go_at_call 57; refine (RefNum_in l.length (by omega) w).mono ?_; rintro _ w1 ⟨v1, rfl, hB1, ho1⟩)
    | (at_builtin; refine wpList_append_rd rfl (.tmp 5) (.tmp 6) 33 rfl (base := w.heap.size) Tryd.underlying33 hi hz0 hz1 hz2 rfl ho1 rfl (Hr.out.keep (KeepBut.below hB1)) (by omega) hB1.size ?_; intro v2 w2 o2 grow2))
  go_ret
  refine ⟨_, rfl, hB1.grown grow2 hB1.size (fun k e => (ho1.lt k e).1), ?_⟩
  rw [← List.map_append] at o2
  exact rdV_own o2 (by simp) (by simp)
theorem Bytes_true (v1 v2 : Value) (l : List UInt8) (w : World) (h1 : RdV w [] v1 l) (h2 : RdV w [] v2 l) (hl : l.length ≤ 1000000) : Cv 24 #[v1, v2] w (.eq (.bool true)) := by
  have := Bytes_cv v1 v2 l l w h1 h2 hl hl
  simpa using this
theorem RefBytes_cv (v : Value) (l z : List UInt8) (w : World) (h : RdV w [] v l) (hl : l.length ≤ 900000) (hz : numL l.length ++ l = z) : Cv 47 #[v] w (svRd z) := hz ▸ RefBytes_rd v l w h hl
end Go.Proofs.YtbejolbknimmmaaDoor
/- The document's answer for layer 9: the last entry's bytes. -/
namespace Go.Proofs.YtbejolbknimmmaaDoor
open Go Go.RowKit
set_option maxRecDepth 8000
set_option linter.all false
set_option maxHeartbeats 1000000 in
theorem RefBytes_own (v : Value) (l : List UInt8) (B : Nat) (w : World) (h : RdV w [] v l) (hl : l.length ≤ 900000) (hB : B ≤ w.heap.size) : Cv 47 #[v] w (svOB B (numL l.length ++ l)) := by
  unfold Cv
  have Hr := Lib.hid h
  obtain ⟨A, cap, rfl, h1, h2, _⟩ := h
  have h5 : (numL l.length).length ≤ 5 := by rw [numL_length]; exact sz_le _
  obtain ⟨i0, hi, hz0, hz1, hz2⟩ := info_parts info5
  go_enter Tryd.func47, Tryd.ntmps47
  go_wp2_with (first
    | (go_at_call 57; refine (RefNum_in l.length (by omega) w).mono ?_; rintro _ w1 ⟨v1, rfl, hB1, ho1⟩)
    | (at_builtin; refine wpList_append_rd rfl (.tmp 5) (.tmp 6) 33 rfl (base := w.heap.size) Tryd.underlying33 hi hz0 hz1 hz2 rfl ho1 rfl (Hr.out.keep (KeepBut.below hB1)) (by omega) hB1.size ?_; intro v2 w2 o2 grow2))
  go_ret
  refine ⟨_, rfl, hB1.grown grow2 hB1.size (fun k e => (ho1.lt k e).1), ?_⟩
  rw [← List.map_append] at o2
  have : OwnB w2 w.heap.size v2 (numL l.length ++ l) := by unfold OwnB; rw [List.length_append]; exact o2
  exact this.mono hB
set_option maxHeartbeats 2000000 in
theorem RLaid_cv {nx : (Nat → UInt8) → List UInt8 → Nat → UInt8} (hX : LogH nx) (v0 : Value) (E : List (List UInt8)) (x : List UInt8) (w : World) (hT : Tables w) (hp : Parts w v0 (E ++ [x])) (hn : (E ++ [x]).length ≤ 70000) (hl : ∀ l ∈ E ++ [x], l.length ≤ 2000) : Cv 34 #[v0] w (svRd (entL nx mkL (chL nx hash0 E) x)) := by
  unfold Cv
  have HT := Lib.hid hT
  have HA0 := Lib.hid hp
  have HLL := Lib.hid hl
  have HNL := Lib.hid hn
  have HXL : Hid (x.length ≤ 900000) := Lib.hid (by have := hl x (by simp); omega)
  obtain ⟨k0, hk0⟩ : ∃ k0, E.length = k0 := ⟨_, rfl⟩
  have HX : Hid ((E ++ [x])[k0]? = some x) := Lib.hid (by rw [← hk0]; simp)
  have HW : Hid (wrap64 (((E ++ [x]).length : Int) - 1) = (k0 : Int)) := Lib.hid (by rw [List.length_append] at hn ⊢; simp only [List.length_cons, List.length_nil] at hn ⊢; unfold wrap64; omega)
  obtain ⟨d, hd⟩ := hid_ex (chL nx hash0 (E ++ [x]))
  have HZ : Hid (numL x.length ++ x ++ mkL d = entL nx mkL (chL nx hash0 E) x) := Lib.hid (by rw [← hd.out, chL_snoc]; rfl)
  obtain ⟨A1, c1, e1', q1⟩ := parts_form hp
  subst e1'
  clear hT hp hl q1 hn hk0
  go_enter Tryd.func34, Tryd.ntmps34
  go_upto_region 1 with fail
  refine wp_region_lit ?_
  refine wpList_plain rfl (fun K hK => ?_)
  refine opr_move (.inl rfl) (hK _ _ ?_)
  clear hK K
  simp only [Act.put, List.setIfInBounds_toArray, List.set_cons_zero, List.set_cons_succ]
  refine wpList_plain rfl (fun K hK => ?_)
  refine opr_cv (RChain_cv hX _ (E ++ [x]) w HT.out HA0.out (by have := HNL.out; omega) HLL.out) rfl Tryd.func23 (by kernel_rfl) (by kernel_rfl) (by simp only [List.map_toArray, List.map_cons, List.map_nil, eval_tmp]; rfl) ?_
  intro v5 w1 hN1 e5
  rw [hd.out] at e5
  obtain rfl : v5 = .agg (rowA 32 (bF d)) := e5
  refine hK _ _ ?_
  clear hK K
  simp only [Act.put, List.setIfInBounds_toArray, List.set_cons_zero, List.set_cons_succ]
  refine wpList_new (n := 32) rfl rfl rfl rfl rfl rfl (by simp) run_alloc_hash info31 (fun _ => rfl) rfl ?_
  intro w2 hn2 r3
  refine wpList_end rfl ?_
  simp only [Act.put, List.setIfInBounds_toArray, List.set_cons_zero, List.set_cons_succ]
  have R3 := Lib.hid r3
  have HN := Lib.hid (NewT.trans _ _ _ hN1 hn2)
  have HA := Lib.hid (HN.out.partsL HA0.out)
  clear hN1 hn2 r3
  go_simp
  go_upto_region 2 with fail
  obtain ⟨va, ea⟩ : ∃ v, Value.slice A1 (E ++ [x]).length c1 = v := ⟨_, rfl⟩
  rw [ea] at HA
  first | rw [ea] | (simp only [List.length_append, List.length_cons, List.length_nil] at ea ⊢; rw [ea])
  refine wp_region_rely_tail (NewT) [SV.eq (va), SV.eq (va), SV.eq (.int .i64 ((List.length ((E ++ [x])) : Int))), SV.eq (.int .i64 ((k0 : Int))), svPT (x), svRd (x), svOB w2.heap.size (numL (List.length x) ++ x), svRd (mkL (d))] [([(0, none)], none), ([(0, none)], none), ([(7, some 1)], none), ([(8, some 2)], none), ([(6, some 0), (9, some 3)], none), ([(10, some 4)], none), ([(11, some 5)], none), ([(3, none)], none)] 15 8 (by kernel_rfl) rfl rfl (Nat.zero_lt_succ _) (by kernel_rfl) (by kernel_rfl) (by kernel_rfl) NewT.trans (NewT.drew _) (Nat.le_of_ble_eq_true rfl) ⟨?_, ?_, ?_, ?_, ?_, ?_, ?_, ?_, trivial⟩ ?_
  · exact fun a wx hT hF K hK => rely_wp rfl (opr_move (.inl rfl) (hK _ _ (NewT.refl _) hF.1))
  · exact fun a wx hT hF K hK => rely_wp rfl (opr_move (.inl rfl) (hK _ _ (NewT.refl _) hF.1))
  · intro a wx hT hF K hK
    obtain ⟨f7, _⟩ := hF
    have f7 : a.tmps.getD 7 undef = va := f7
    refine rely_wp rfl ?_
    exact opr_len_parts rfl (by rw [eval_tmp, f7]; exact (hT.partsL HA.out)) (hK _ _ (NewT.refl _) rfl)
  · exact fun a wx hT hF K hK => rely_wp rfl (opr_sub (r := (k0 : Int)) Tryd.underlying3 (HW.out) rfl hF.1 rfl (hK _ _ (NewT.refl _) rfl))
  · intro a wx hT hF K hK
    obtain ⟨f6, f9, _⟩ := hF
    have f6 : a.tmps.getD 6 undef = va := f6
    have f9 : a.tmps.getD 9 undef = .int .i64 ((k0 : Int)) := f9
    refine rely_wp rfl ?_
    exact opr_idxT (i := k0) (l := x) (HX.out) (rfl) rfl (by rw [eval_tmp, f6]; exact (hT.partsL HA.out)) f9 (fun v hv => hK v _ (NewT.refl _) hv)
  · exact fun a wx hT hF K hK => rely_wp rfl (opr_ldT rfl hF.1 (fun u hu => hK u _ (NewT.refl _) hu))
  · exact fun a wx hT hF K hK => rely_wp rfl (opr_cv (RefBytes_own _ x w2.heap.size wx hF.1 HXL.out hT.size) rfl Tryd.func47 (by kernel_rfl) (by kernel_rfl) (evs1 rfl) hK)
  · exact fun a wx hT hF K hK => rely_wp rfl (opr_sliceH8 rfl hF.1 (hK _ _ (NewT.refl _) (rd_rowH8 (hT.row R3.out) (by decide) (fun j hj => by rw [Nat.zero_add]))))
  · intro wx hT
    iterate 4 (intro u h; obtain rfl := Eq.symm (h (by simp)); clear h)
    iterate 2 (intro _ _)
    intro u12 h; have g12 := h (by simp); clear h; replace g12 := show (svOB w2.heap.size (numL (List.length x) ++ x)).pred u12 wx from g12
    intro u13 h; have g13 := h (by simp); clear h; replace g13 := show (svRd (mkL (d))).pred u13 wx from g13
    refine relyEnd_nil rfl ?_
    simp only [Act.put, List.setIfInBounds_toArray, List.set_cons_zero, List.set_cons_succ]
    refine wpList_plain rfl (fun K hK => ?_)
    obtain ⟨v9, w9, hrun, hO9, hG9, _⟩ := run_appB_two (L := []) (show OwnB _ _ _ _ from g12) g13 (by rw [List.length_append, numL_length, mkL_length]; have := HXL.out; have := sz_le (List.length x); omega) hT.size 33
    refine opr_append rfl rfl rfl hrun (hK _ _ ?_)
    clear hK K
    simp only [Act.put, List.setIfInBounds_toArray, List.set_cons_zero, List.set_cons_succ]
    refine wpList_plain rfl (fun K hK => ?_)
    refine opr_move (.inr rfl) (hK _ _ ?_)
    clear hK K
    refine wpList_end rfl ?_
    simp only [Act.put, List.setIfInBounds_toArray, List.set_cons_zero, List.set_cons_succ]
    go_simp
    go_wp2
    go_ret
    have hN9 : NewT w2 w9 := NewT.of (hT.out.grown hG9 hT.out.size (fun k hk => ((show OwnB _ _ _ _ from g12).lt k hk).1))
    refine ⟨_, rfl, NewT.trans _ _ _ HN.out hN9, ?_⟩
    have := (OwnB.fresh hO9).rd
    rw [HZ.out] at this
    exact this
end Go.Proofs.YtbejolbknimmmaaDoor
/- A row of slices of the law's own beside a log. -/
namespace Go.Proofs.YtbejolbknimmmaaDoor
open Go Go.RowKit
set_option maxRecDepth 8000
set_option linter.all false
variable {nx : (Nat → UInt8) → List UInt8 → Nat → UInt8}
theorem cells_of_row {w : World} {b t n : Nat} {f : Nat → Value} (h : w.rowIs b t n f) : ∃ c, w.heap[b]? = some (.cells c t) := by
  obtain ⟨c, hc, _⟩ := h; exact ⟨c, hc⟩
theorem OwnV.cells' {w : World} {B : Nat} {e : TypeId} {v : Value} {l : List Value} (h : OwnV w B e v l) : ∀ k, v.ownBlock = some k → ∃ c, w.heap[k]? = some (.cells c e) := fun k hk => by
  rcases h.2 with ⟨rfl, _⟩ | ⟨g, cap, cur, rfl, _, hg, _⟩
  · cases hk
  · cases hk; exact ⟨cur, hg⟩
theorem OwnB.cells' {w : World} {B : Nat} {v : Value} {l : List UInt8} (h : OwnB w B v l) : ∀ k, v.ownBlock = some k → ∃ c, w.heap[k]? = some (.cells c 5) := fun k hk => by
  rcases h.2 with ⟨rfl, _⟩ | ⟨g, cap, cur, rfl, _, hg, _⟩
  · cases hk
  · cases hk; exact ⟨cur, hg⟩
/-- A row whose elements are no bytes, disks or logs lies beside the log. -/
theorem OwnV.besideT {w : World} {B g dk room n : Nat} {e : TypeId} {va v : Value} {vs : List Value} {es : List (List UInt8)} (he : e ≠ 64 ∧ e ≠ 70 ∧ e ≠ 5) (h : OwnV w B e va vs) (hL : LogAt nx w g dk v room es n) : ∀ k, va.ownBlock = some k → k ∉ g :: dk :: v.ownBlock.toList := fun k hk hm => by
  obtain ⟨c, hc⟩ := h.cells' k hk
  rcases List.mem_cons.1 hm with rfl | hm
  · obtain ⟨c', hc'⟩ := cells_of_row hL.row
    rw [hc] at hc'; injection hc' with hc'; injection hc' with _ h1; exact he.1 h1
  · rcases List.mem_cons.1 hm with rfl | hm
    · obtain ⟨c', hc'⟩ := cells_of_row hL.disk.row
      rw [hc] at hc'; injection hc' with hc'; injection hc' with _ h1; exact he.2.1 h1
    · obtain ⟨c', hc'⟩ := hL.disk.own.cells' k (by simpa using hm)
      rw [hc] at hc'; injection hc' with hc'; injection hc' with _ h1; exact he.2.2 h1
theorem LogAt.appT {w w' : World} {B g dk room n : Nat} {e : TypeId} {va v : Value} {vs : List Value} {es : List (List UInt8)} (he : e ≠ 64 ∧ e ≠ 70 ∧ e ≠ 5) (hL : LogAt nx w g dk v room es n) (hO : OwnV w B e va vs) (hG : w.grownBy w' va.ownBlock) : LogAt nx w' g dk v room es n :=
  hL.keep (keepBut_grown hG (L := va.ownBlock.toList) (fun k hk => by simp [hk])) (fun k hk hm => hO.besideT he hL k (by simpa using hm) hk)
/-- The row lies beside the log: their types differ. -/
theorem OwnV.beside {w : World} {B g dk room n : Nat} {va v : Value} {vs : List Value} {es : List (List UInt8)} (h : OwnV w B 33 va vs) (hL : LogAt nx w g dk v room es n) : ∀ k, va.ownBlock = some k → k ∉ g :: dk :: v.ownBlock.toList := fun k hk hm => by
  obtain ⟨c, hc⟩ := h.cells' k hk
  rcases List.mem_cons.1 hm with rfl | hm
  · obtain ⟨c', hc'⟩ := cells_of_row hL.row
    rw [hc] at hc'; cases hc'
  · rcases List.mem_cons.1 hm with rfl | hm
    · obtain ⟨c', hc'⟩ := cells_of_row hL.disk.row
      rw [hc] at hc'; cases hc'
    · obtain ⟨c', hc'⟩ := hL.disk.own.cells' k (by simpa using hm)
      rw [hc] at hc'; cases hc'
theorem OwnV.lstep {w w' : World} {B g dk room n : Nat} {va v v' : Value} {vs : List Value} {es : List (List UInt8)} (h : OwnV w B 33 va vs) (hL : LogAt nx w g dk v room es n) (hS : LStep g dk v w w' v') : OwnV w' B 33 va vs :=
  h.of_block fun k o hk ho hc => hS.keep.2 k o (h.beside hL k hk) ho hc
theorem OwnV.dstep {w w' : World} {B g dk room n : Nat} {va v v' : Value} {vs : List Value} {es : List (List UInt8)} (h : OwnV w B 33 va vs) (hL : LogAt nx w g dk v room es n) (hS : DStep dk v w w' v') : OwnV w' B 33 va vs :=
  h.lstep hL (LStep.of_d hS)
theorem OwnV.dstep' {w w' : World} {B dk room n : Nat} {va v v' : Value} {vs : List Value} {S : List UInt8} (h : OwnV w B 33 va vs) (hL : DiskAt w dk v room S n) (hS : DStep dk v w w' v') : OwnV w' B 33 va vs :=
  h.of_block fun k o hk ho hc => hS.keep.2 k o (fun hm => by
    obtain ⟨c, hc⟩ := h.cells' k hk
    rcases List.mem_cons.1 hm with rfl | hm
    · obtain ⟨c', hc'⟩ := cells_of_row hL.row
      rw [hc] at hc'; cases hc'
    · obtain ⟨c', hc'⟩ := hL.own.cells' k (by simpa using hm)
      rw [hc] at hc'; cases hc') ho hc
theorem LogAt.app {w w' : World} {B g dk room n : Nat} {va v : Value} {vs : List Value} {es : List (List UInt8)} (hL : LogAt nx w g dk v room es n) (hO : OwnV w B 33 va vs) (hG : w.grownBy w' va.ownBlock) : LogAt nx w' g dk v room es n :=
  hL.keep (keepBut_grown hG (L := va.ownBlock.toList) (fun k hk => by simp [hk])) (fun k hk hm => hO.beside hL k (by simpa using hm) hk)
/-- An append of one slice onto the row. -/
theorem app_one {W : World} {B : Nat} {va u : Value} {vs : List Value} {A : Option Addr} {n c : Nat} (h : OwnV W B 33 va vs) (hu : ValsAt W [] u [.slice A n c]) (hn : vs.length ≤ 1000) (hB : B ≤ W.heap.size) :
    ∃ v' w', (Builtin.append_ #[26, 26] 26 #[va, u]).run Tryd.prog W = .ok v' w' ∧ OwnV w' B 33 v' (vs ++ [.slice A n c]) ∧ W.grownBy w' va.ownBlock := by
  obtain ⟨i0, hTy⟩ := ssTy
  obtain ⟨v', w', h1, h2, _, h3⟩ := run_appV_T (P := Tryd.prog) (ty := 26) hTy h hu (by intro y hy; simp at hy; subst hy; rfl) (C := vs ++ [.slice A n c]) (List.prefix_refl _) (by simp; omega) hB
  exact ⟨v', w', h1, h2, h3⟩
theorem vals_one (w : World) (A : Option Addr) (n c : Nat) : ValsAt (w.alloc (.cells #[.slice A n c] 33)) [] (.slice (some ⟨w.heap.size, 0, none⟩) 1 1) [.slice A n c] :=
  ⟨some ⟨w.heap.size, 0, none⟩, 1, rfl, by simp, by unfold maxLen; omega, fun _ => ⟨w.heap.size, 0, rfl, by simp, fun i y hy => by
    have h0 : i = 0 := by have := (List.getElem?_eq_some_iff.1 hy).1; simpa using this
    subst h0
    simp at hy
    subst hy
    exact (rowIs_one w 33 (.slice A n c)).cell (i := 0) (by omega)⟩⟩
/-- What the row reads as. -/
theorem OwnV.parts {w0 w : World} {B : Nat} {va : Value} {ps : List (Value × List UInt8)} (h : OwnV w B 33 va (ps.map (·.1))) (hN : NewT w0 w) (hp : ∀ x ∈ ps, RdV w0 [] x.1 x.2) : PartsAt w [] va ps :=
  ValsAt.parts (h.at' (by simp)) fun x hx => hN.rd (hp x hx)
end Go.Proofs.YtbejolbknimmmaaDoor
/- A step that writes two blocks alone. -/
namespace Go.Proofs.YtbejolbknimmmaaDoor
open Go Go.RowKit
set_option maxRecDepth 8000
set_option linter.all false
/-- A step that writes blocks b and c, and new memory, alone. -/
structure RW (b c : Nat) (w w' : World) : Prop where
  below : Below (min b c) w w'
  keep : KeepBut [b, c] w w'
theorem RW.trans {b c : Nat} (x y z : World) (h : RW b c x y) (k : RW b c y z) : RW b c x z := ⟨h.below.trans k.below, h.keep.trans k.keep⟩
theorem RW.drew (b c : Nat) (w : World) : RW b c w w.drew := ⟨(Below.refl _ _).drew, KeepBut.drew _⟩
theorem RW.size {b c : Nat} {w w' : World} (h : RW b c w w') : w.heap.size ≤ w'.heap.size := h.below.size
theorem RW.new {b c : Nat} {w w' : World} (hb : b < w.heap.size) (h : NewT w w') : RW b c w w' := ⟨h.out.mono (by omega), KeepBut.below h⟩
theorem RW.fst {b c : Nat} {w w' : World} (h : RT b w w') : RW b c w w' := ⟨h.below.mono (by omega), h.keep.1, fun k o hk => h.keep.2 k o (by simp at hk ⊢; exact hk.1)⟩
theorem RW.snd {b c : Nat} {w w' : World} (h : RT c w w') : RW b c w w' := ⟨h.below.mono (by omega), h.keep.1, fun k o hk => h.keep.2 k o (by simp at hk ⊢; exact hk.2)⟩
theorem RW.row {b c : Nat} {w w' : World} (h : RW b c w w') {k n : Nat} {t : TypeId} {f : Nat → Value} (hk : k ≠ b ∧ k ≠ c) (hr : w.rowIs k t n f) : w'.rowIs k t n f := h.keep.row (by simpa using hk) hr
theorem NewT.rw {w w1 w2 : World} {b c : Nat} (h : NewT w w1) (hR : RW b c w1 w2) (hb : w.heap.size ≤ b) (hc : w.heap.size ≤ c) : NewT w w2 := NewT.of (h.out.trans (hR.below.mono (by omega)))
end Go.Proofs.YtbejolbknimmmaaDoor
/- The reference's log: its row, what it holds; rows of slices that are made anew with one more. -/
namespace Go.Proofs.YtbejolbknimmmaaDoor
open Go Go.RowKit
set_option maxRecDepth 8000
set_option linter.all false
variable {nx : (Nat → UInt8) → List UInt8 → Nat → UInt8}
/-- The reference's log: its disk, its entries. -/
def rlF (gr : Nat) (v : Value) (i : Nat) : Value := if i = 0 then .pointer (some ⟨gr, 0, none⟩) else v
/-- Block gy is the reference's log over the disk gr; what it reads lies outside of both and of M. -/
structure RLogAt (w : World) (gy gr : Nat) (M : List Nat) (vd vl : Value) (room : Nat) (D L : List UInt8) (vL : Value) (ps : List (Value × List UInt8)) : Prop where
  row : w.rowIs gy 45 2 (rlF gr vL)
  disk : RefAt w gr (gy :: M) vd vl room D L
  parts : PartsAt w (gy :: gr :: M) vL ps
  ne : gy ≠ gr
theorem rlF_set (gr : Nat) (v v' : Value) (i : Nat) (hi : i < 2) : rlF gr v' i = if i = 1 then v' else rlF gr v i := by
  have : i = 0 ∨ i = 1 := by omega
  rcases this with rfl | rfl <;> simp [rlF]
theorem info_prd : (Tryd.prog.info? 32).map (·.size) = some 1 := by kernel_rfl
section
variable {a : Act} {w : World} {o : Oper} {K : Act → World → Prop} {Q : Exit → Act → World → Prop} {x y : Operand}
theorem opr_fldL0 {g : Nat} (ho : o.op = .fieldAddr 45 x 0) (hx : a.eval x = .pointer (some ⟨g, 0, none⟩)) (h : K (a.put o.dst (.pointer (some ⟨g, 0, none⟩))) w) : o.wp Tryd.prog a w K Q :=
  opr_fld Tryd.underlying45 rfl info_prd ho hx (by rfl) h
theorem opr_fldL1 {g : Nat} (ho : o.op = .fieldAddr 45 x 1) (hx : a.eval x = .pointer (some ⟨g, 0, none⟩)) (h : K (a.put o.dst (.pointer (some ⟨g, 1, none⟩))) w) : o.wp Tryd.prog a w K Q :=
  opr_fld Tryd.underlying45 rfl info_ss1 ho hx (by rfl) h
theorem opr_ldRD {g n o0 : Nat} {t' : TypeId} {F : Nat → Value} {v : Value} (hr : w.rowIs g t' n F) (hn : o0 < n) (hv : F o0 = v) (ho : o.op = .load 32 x) (hx : a.eval x = .pointer (some ⟨g, o0, none⟩)) (h : K (a.put o.dst v) w) : o.wp Tryd.prog a w K Q :=
  opr_ld1 Tryd.underlying32 rfl ho hx (by rw [hr.cell hn, hv]) h
theorem opr_bs0V (ho : o.op = .buildSlice 26 0 #[]) (h : ∀ v w', NewT w w' → OwnV w' w.heap.size 33 v [] → K (a.put o.dst v) w') : o.wp Tryd.prog a w K Q := by
  obtain ⟨dst, op, type, pos, after, guard⟩ := o
  simp only at ho
  subst ho
  exact opr_val (s := Instr.buildSlice 26 0 #[]) (by simp [execOp]) (v := .slice (some ⟨w.heap.size, 0, none⟩) 0 0) (w' := w.alloc (.cells #[] 33)) (by simp [go_sem]) (h _ _ (NewT.alloc _ _) (ownV_empty w _))
end
theorem one_sl {A : Option Addr} {n c : Nat} : ∀ x ∈ [Value.slice A n c], x.oneCell' = true := fun x hx => by simp at hx; subst hx; rfl
theorem parts_one' {w : World} {L : List Nat} {v : Value} {ps : List (Value × List UInt8)} (h : PartsAt w L v ps) : ∀ x ∈ ps.map (·.1), x.oneCell' = true := fun x hx => by
  obtain ⟨y, hy, rfl⟩ := List.mem_map.1 hx
  obtain ⟨A, c, e⟩ := rdV_form (parts_rd h hy)
  rw [e]; rfl
/-- The parts, put behind an empty row of the own. -/
theorem run_appP {w1 : World} {B : Nat} {L : List Nat} {v u : Value} {ps : List (Value × List UInt8)} (h : OwnV w1 B 33 v []) (hp : PartsAt w1 L u ps) (hn : ps.length ≤ 70000) (hB : B ≤ w1.heap.size) (ty : TypeId) :
    ∃ v' w', (Builtin.append_ #[26, 26] ty #[v, u]).run Tryd.prog w1 = .ok v' w' ∧ OwnV w' B 33 v' (ps.map (·.1)) ∧ w1.grownBy w' v.ownBlock := by
  obtain ⟨i0, Y⟩ := ssTy
  obtain ⟨v', w', h1, h2, _, h4⟩ := run_appV_T (ty := ty) (C := ps.map (·.1)) Y h hp.vals (parts_one' hp) (by rw [List.nil_append]; exact List.prefix_refl _) (by simp; omega) hB
  rw [List.nil_append] at h2
  exact ⟨v', w', h1, h2, h4⟩
/-- One slice more. -/
theorem run_app1 {w1 : World} {B : Nat} {v u : Value} {vs : List Value} {A : Option Addr} {n c : Nat} (h : OwnV w1 B 33 v vs) (hu : ValsAt w1 [] u [.slice A n c]) (hn : vs.length ≤ 70000) (hB : B ≤ w1.heap.size) (ty : TypeId) :
    ∃ v' w', (Builtin.append_ #[26, 26] ty #[v, u]).run Tryd.prog w1 = .ok v' w' ∧ OwnV w' B 33 v' (vs ++ [.slice A n c]) ∧ w1.grownBy w' v.ownBlock := by
  obtain ⟨i0, Y⟩ := ssTy
  obtain ⟨v', w', h1, h2, _, h4⟩ := run_appV_T (ty := ty) (C := vs ++ [.slice A n c]) Y h hu one_sl (List.prefix_refl _) (by simp; omega) hB
  exact ⟨v', w', h1, h2, h4⟩
/-- What the new row's parts are. -/
theorem parts_snoc {w w6 : World} {B : Nat} {L : List Nat} {vL v23 : Value} {ps : List (Value × List UInt8)} {x : Value} {b : List UInt8} (hp : PartsAt w L vL ps) (hN : NewT w w6) (ho : OwnV w6 B 33 v23 (ps.map (·.1) ++ [x])) (hx : RdV w6 L x b) (hL : ∀ k ∈ L, k < B) : PartsAt w6 L v23 (ps ++ [(x, b)]) := by
  refine ValsAt.parts (by rw [List.map_append]; exact ho.at' hL) fun y hy => ?_
  rcases List.mem_append.1 hy with hy | hy
  · exact hN.rd (parts_rd hp hy)
  · simp at hy; subst hy; exact hx
theorem parts_grow {w1 w : World} {L : List Nat} {v u : Value} {l : List UInt8} (h : RdV w (v.ownBlock.toList ++ L) u l) (hG : w.grownBy w1 v.ownBlock) : RdV w1 L u l :=
  (h.keep (keepBut_grown hG (fun k hk => by simp [hk]))).less (by simp +contextual)
end Go.Proofs.YtbejolbknimmmaaDoor
/- The reference's log: Put. -/
namespace Go.Proofs.YtbejolbknimmmaaDoor
open Go Go.RowKit
set_option maxRecDepth 8000
set_option linter.all false
variable {nx : (Nat → UInt8) → List UInt8 → Nat → UInt8}
set_option maxHeartbeats 400000 in
theorem RPut_arg (g : Nat) (u : Value) (w : World) (hu : RdV w [] u []) : Cv 15 #[.pointer (some ⟨g, 0, none⟩), u] w (.eq (.int .i64 1)) := by
  obtain ⟨A, c, rfl, _⟩ := hu
  unfold Cv
  go_enter Tryd.func15, Tryd.ntmps15
  go_wp2
  go_ret
  exact ⟨_, rfl, NewT.refl _, rfl⟩
set_option maxHeartbeats 400000 in
theorem RPut_long (g : Nat) (u : Value) (b : List UInt8) (w : World) (hu : RdV w [] u b) (hb : 2000 < b.length) : Cv 15 #[.pointer (some ⟨g, 0, none⟩), u] w (.eq (.int .i64 4)) := by
  obtain ⟨A, c, rfl, _⟩ := hu
  have h0 : ((b.length : Int) == 0) = false := beq_eq_false_iff_ne.2 (by omega)
  have h1 : (2000 : Int) < (b.length : Int) := by omega
  clear hb
  generalize b.length = m at *
  unfold Cv
  go_enter Tryd.func15, Tryd.ntmps15
  go_wp2
  go_ret
  exact ⟨_, rfl, NewT.refl _, rfl⟩
set_option maxHeartbeats 4000000 in
theorem RPut_full (hX : LogH nx) (gy gr : Nat) (M : List Nat) (vd vl : Value) (room : Nat) (D L : List UInt8) (vL : Value) (ps : List (Value × List UInt8)) (u : Value) (b : List UInt8) (w : World) (hT : Tables w) (h : RLogAt w gy gr M vd vl room D L vL ps) (hM : ∀ k ∈ gy :: gr :: M, k < w.heap.size) (hu : RdV w (gy :: gr :: M) u b) (hb : okE b) (hn : ps.length ≤ 65536) (hl : ∀ x ∈ ps, x.2.length ≤ 2000) (hr : room < D.length + L.length + (entL nx mkL (chL nx hash0 (ps.map (·.2))) b).length) : Cv 15 #[.pointer (some ⟨gy, 0, none⟩), u] w (.eq (.int .i64 5)) := by
  unfold Cv
  have hb1 := hb.1
  have hb2 := hb.2
  have HT := Lib.hid hT
  have H := Lib.hid h
  have HM := Lib.hid hM
  have HU := Lib.hid hu
  have HB := Lib.hid hb
  have HN := Lib.hid hn
  have hll : ∀ l ∈ ps.map (·.2) ++ [b], l.length ≤ 2000 := fun l hl' => by
    rcases List.mem_append.1 hl' with h' | h'
    · obtain ⟨y, hy, rfl⟩ := List.mem_map.1 h'
      exact hl y hy
    · simp at h'; subst h'; exact hb2
  have HLL := Lib.hid hll
  have RG := Lib.hid h.row
  obtain ⟨zz, HZ⟩ := hid_ex (entL nx mkL (chL nx hash0 (ps.map (·.2))) b)
  rw [HZ.out] at hr
  have HR := Lib.hid hr
  obtain ⟨A1, c1, hu1⟩ := rdV_form hu
  subst hu1
  have h0 : ((b.length : Int) == 0) = false := beq_eq_false_iff_ne.2 (by omega)
  have h1 : ¬ (2000 : Int) < (b.length : Int) := by omega
  clear hT h hM hu hb hn hl hll hr hb1
  go_enter Tryd.func15, Tryd.ntmps15
  go_upto_region 5 with fail
  refine wp_region_lit ?_
  refine wpList_plain rfl (fun K hK => ?_)
  refine opr_bs0V rfl (fun v13 w1 hN1 hO1 => hK _ _ ?_)
  clear hK K
  simp only [Act.put, List.setIfInBounds_toArray, List.set_cons_zero, List.set_cons_succ]
  refine wpList_plain rfl (fun K hK => ?_)
  refine opr_move (.inl rfl) (hK _ _ ?_)
  clear hK K
  simp only [Act.put, List.setIfInBounds_toArray, List.set_cons_zero, List.set_cons_succ]
  refine wpList_plain rfl (fun K hK => ?_)
  refine opr_nilc rfl rfl (hK _ _ ?_)
  clear hK K
  simp only [Act.put, List.setIfInBounds_toArray, List.set_cons_zero, List.set_cons_succ]
  refine wpList_plain rfl (fun K hK => ?_)
  refine opr_fldL1 rfl rfl (hK _ _ ?_)
  clear hK K
  simp only [Act.put, List.setIfInBounds_toArray, List.set_cons_zero, List.set_cons_succ]
  refine wpList_plain rfl (fun K hK => ?_)
  refine opr_ldSs (v := vL) (hN1.row RG.out) (by decide) rfl rfl rfl (hK _ _ ?_)
  clear hK K
  simp only [Act.put, List.setIfInBounds_toArray, List.set_cons_zero, List.set_cons_succ]
  refine wpList_plain rfl (fun K hK => ?_)
  obtain ⟨v18, w2, hrun, hO2, hG2⟩ := run_appP hO1 (H.out.parts.keep (KeepBut.below hN1)) (by have := HN.out; omega) hN1.out.size 26
  refine opr_append rfl rfl rfl hrun (hK _ _ ?_)
  clear hrun
  clear hK K
  simp only [Act.put, List.setIfInBounds_toArray, List.set_cons_zero, List.set_cons_succ]
  have hN2 : NewT w w2 := NewT.of (hN1.out.grown hG2 hN1.out.size (fun k e => (hO1.lt k e).1))
  refine wpList_plain rfl (fun K hK => ?_)
  refine opr_bs0O (B := w2.heap.size) (Nat.le_refl _) rfl (fun v19 w3 hN3 hO3 => hK _ _ ?_)
  clear hK K
  simp only [Act.put, List.setIfInBounds_toArray, List.set_cons_zero, List.set_cons_succ]
  refine wpList_plain rfl (fun K hK => ?_)
  refine opr_move (.inl rfl) (hK _ _ ?_)
  clear hK K
  simp only [Act.put, List.setIfInBounds_toArray, List.set_cons_zero, List.set_cons_succ]
  refine wpList_plain rfl (fun K hK => ?_)
  obtain ⟨v21, w4, hrun, hO4, hG4, _⟩ := run_appB_two (show OwnB w3 w2.heap.size v19 [] from hO3) (HU.out.keep (KeepBut.below (NewT.trans _ _ _ hN2 hN3))) (by simp; omega) hN3.out.size 33
  refine opr_append rfl rfl rfl hrun (hK _ _ ?_)
  clear hrun
  clear hK K
  simp only [Act.put, List.setIfInBounds_toArray, List.set_cons_zero, List.set_cons_succ]
  rw [List.nil_append] at hO4
  have hN4 : NewT w2 w4 := NewT.of (hN3.out.grown hG4 hN3.out.size (fun k e => ((show OwnB w3 w2.heap.size v19 [] from hO3).lt k e).1))
  have hF4 := (OwnB.fresh hO4).rdL (L := v18.ownBlock.toList ++ (gy :: gr :: M)) (fun k hk => by
    rcases List.mem_append.1 hk with hk | hk
    · exact (hO2.lt k (by simpa using hk)).2
    · exact Nat.lt_of_lt_of_le (HM.out k hk) hN2.out.size)
  obtain ⟨A4, c4, e4, _⟩ := hO4.cap
  subst e4
  refine wpList_plain rfl (fun K hK => ?_)
  refine opr_bs1V rfl rfl (fun v22 w5 hN5 hv5 => hK _ _ ?_)
  clear hK K
  simp only [Act.put, List.setIfInBounds_toArray, List.set_cons_zero, List.set_cons_succ]
  refine wpList_plain rfl (fun K hK => ?_)
  have hN25 := NewT.trans _ _ _ hN4 hN5
  obtain ⟨v23, w6, hrun, hO6, hG6⟩ := run_app1 (hO2.keep hN25) hv5 (by have := HN.out; simp; omega) (NewT.trans _ _ _ hN2 hN25).out.size 26
  refine opr_append rfl rfl rfl hrun (hK _ _ ?_)
  clear hrun
  clear hK K
  simp only [Act.put, List.setIfInBounds_toArray, List.set_cons_zero, List.set_cons_succ]
  refine wpList_plain rfl (fun K hK => ?_)
  refine opr_move (.inr rfl) (hK _ _ ?_)
  clear hK K
  refine wpList_end rfl ?_
  simp only [Act.put, List.setIfInBounds_toArray, List.set_cons_zero, List.set_cons_succ]
  have hN6 : NewT w w6 := NewT.of ((NewT.trans _ _ _ hN2 hN25).out.grown hG6 (NewT.trans _ _ _ hN2 hN25).out.size (fun k e => (hO2.lt k e).1))
  have hP6 := parts_snoc H.out.parts hN6 hO6 (parts_grow (hN5.rd hF4) hG6) HM.out
  have HN6 := Lib.hid hN6
  have HP6 := Lib.hid hP6
  have RG6 := Lib.hid (hN6.row RG.out)
  have HPS : Hid (Parts w6 v23 (ps.map (·.2) ++ [b])) := Lib.hid ⟨_, ⟨hP6.more (fun k _ _ => by simp), by simp⟩⟩
  obtain ⟨A6, n6, c6, e6⟩ : ∃ A n c, v23 = Value.slice A n c := by obtain ⟨A, c, e, _⟩ := hO6.cap; exact ⟨A, _, c, e⟩
  have E6 := Lib.hid e6
  clear e6
  have H6 := Lib.hid (H.out.disk.new hN6)
  clear hN1 hO1 hG2 hN2 hN3 hO3 hO4 hG4 hN4 hF4 hN5 hv5 hN25 hO6 hG6 hN6 hP6 hO2
  go_simp
  go_upto_region 6 with fail
  refine wp_region_rely_tail (NewT) [SV.eq (.pointer (some ⟨gy, 0, none⟩)), SV.eq (.pointer (some ⟨gy, 0, none⟩)), SV.eq (.pointer (some ⟨gy, 0, none⟩)), SV.eq (.pointer (some ⟨gr, 0, none⟩)), SV.eq (v23), svRd (zz)] [([(0, none)], none), ([(24, some 0)], none), ([(25, some 1)], none), ([(26, some 2)], none), ([(5, none)], none), ([(28, some 4)], none)] 38 6 (by kernel_rfl) rfl rfl (Nat.zero_lt_succ _) (by kernel_rfl) (by kernel_rfl) (by kernel_rfl) NewT.trans (NewT.drew _) (Nat.le_of_ble_eq_true rfl) ⟨?_, ?_, ?_, ?_, ?_, ?_, trivial⟩ ?_
  · exact fun a wx hT hF K hK => rely_wp rfl (opr_move (.inl rfl) (hK _ _ (NewT.refl _) hF.1))
  · exact fun a wx hT hF K hK => rely_wp rfl (opr_nilc rfl hF.1 (hK _ _ (NewT.refl _) rfl))
  · exact fun a wx hT hF K hK => rely_wp rfl (opr_fldL0 rfl hF.1 (hK _ _ (NewT.refl _) rfl))
  · exact fun a wx hT hF K hK => rely_wp rfl (opr_ldRD (hT.row RG6.out) (by decide) rfl rfl hF.1 (hK _ _ (NewT.refl _) rfl))
  · exact fun a wx hT hF K hK => rely_wp rfl (opr_move (.inl rfl) (hK _ _ (NewT.refl _) hF.1))
  · exact fun a wx hT hF K hK => rely_wp rfl (opr_cv ((by rw [← HZ.out]; exact RLaid_cv hX _ (ps.map (·.2)) b wx (hT.tables (HN6.out.tables HT.out)) (hT.partsL HPS.out) (by have := HN.out; simp; omega) HLL.out)) rfl Tryd.func34 (by kernel_rfl) (by kernel_rfl) (evs1 hF.1) hK)
  · intro wb kb
    iterate 5 (intro u h; obtain rfl := Eq.symm (h (by simp)); clear h)
    intro u29 h; have g29 := h (by simp); clear h; replace g29 := show (svRd (zz)).pred u29 wb from g29
    refine relyEnd_nil rfl ?_
    simp only [Act.put, List.setIfInBounds_toArray, List.set_cons_zero, List.set_cons_succ]
    refine wpList_plain rfl (fun K hK => ?_)
    have hzl : zz.length ≤ 100000 := by rw [← HZ.out]; have := HB.out.2; rw [entL_length]; have := sz_le b.length; omega
    refine opr_cv (RWrite_full gr (gy :: M) vd vl _ room D L zz wb (H6.out.new kb) g29 hzl HR.out) rfl Tryd.func38 (by kernel_rfl) (by kernel_rfl) (by simp only [List.map_toArray, List.map_cons, List.map_nil, eval_tmp]; rfl) ?_
    intro v30 w8 hN8 e30
    obtain rfl : v30 = .int .i64 5 := e30
    refine hK _ _ ?_
    clear hK K
    simp only [Act.put, List.setIfInBounds_toArray, List.set_cons_zero, List.set_cons_succ]
    refine wpList_plain rfl (fun K hK => ?_)
    refine opr_move (.inr rfl) (hK _ _ ?_)
    clear hK K
    refine wpList_end rfl ?_
    simp only [Act.put, List.setIfInBounds_toArray, List.set_cons_zero, List.set_cons_succ]
    go_simp
    go_wp2
    go_ret
    exact ⟨_, rfl, NewT.trans _ _ _ HN6.out (NewT.trans _ _ _ kb hN8), rfl⟩
set_option maxHeartbeats 4000000 in
theorem RPut_ok (hX : LogH nx) (gy gr : Nat) (M : List Nat) (vd vl : Value) (room : Nat) (D L : List UInt8) (vL : Value) (ps : List (Value × List UInt8)) (u : Value) (b : List UInt8) (w : World) (hT : Tables w) (h : RLogAt w gy gr M vd vl room D L vL ps) (hM : ∀ k ∈ gy :: gr :: M, k < w.heap.size) (hu : RdV w (gy :: gr :: M) u b) (hb : okE b) (hn : ps.length ≤ 65536) (hl : ∀ x ∈ ps, x.2.length ≤ 2000) (hr : D.length + L.length + (entL nx mkL (chL nx hash0 (ps.map (·.2))) b).length ≤ room) : Calls Tryd.prog 15 #[.pointer (some ⟨gy, 0, none⟩), u] w fun e w' => e = .returned (.int .i64 0) ∧ RW gy gr w w' ∧ ∃ vl' vL' x, RLogAt w' gy gr M vd vl' room D (L ++ entL nx mkL (chL nx hash0 (ps.map (·.2))) b) vL' (ps ++ [(x, b)]) := by
  have hb1 := hb.1
  have hb2 := hb.2
  have HT := Lib.hid hT
  have H := Lib.hid h
  have HM := Lib.hid hM
  have HU := Lib.hid hu
  have HB := Lib.hid hb
  have HN := Lib.hid hn
  have hll : ∀ l ∈ ps.map (·.2) ++ [b], l.length ≤ 2000 := fun l hl' => by
    rcases List.mem_append.1 hl' with h' | h'
    · obtain ⟨y, hy, rfl⟩ := List.mem_map.1 h'
      exact hl y hy
    · simp at h'; subst h'; exact hb2
  have HLL := Lib.hid hll
  have RG := Lib.hid h.row
  obtain ⟨zz, HZ⟩ := hid_ex (entL nx mkL (chL nx hash0 (ps.map (·.2))) b)
  rw [HZ.out] at hr
  have HR := Lib.hid hr
  obtain ⟨A1, c1, hu1⟩ := rdV_form hu
  subst hu1
  have h0 : ((b.length : Int) == 0) = false := beq_eq_false_iff_ne.2 (by omega)
  have h1 : ¬ (2000 : Int) < (b.length : Int) := by omega
  clear hT h hM hu hb hn hl hll hr hb1
  go_enter Tryd.func15, Tryd.ntmps15
  go_upto_region 5 with fail
  refine wp_region_lit ?_
  refine wpList_plain rfl (fun K hK => ?_)
  refine opr_bs0V rfl (fun v13 w1 hN1 hO1 => hK _ _ ?_)
  clear hK K
  simp only [Act.put, List.setIfInBounds_toArray, List.set_cons_zero, List.set_cons_succ]
  refine wpList_plain rfl (fun K hK => ?_)
  refine opr_move (.inl rfl) (hK _ _ ?_)
  clear hK K
  simp only [Act.put, List.setIfInBounds_toArray, List.set_cons_zero, List.set_cons_succ]
  refine wpList_plain rfl (fun K hK => ?_)
  refine opr_nilc rfl rfl (hK _ _ ?_)
  clear hK K
  simp only [Act.put, List.setIfInBounds_toArray, List.set_cons_zero, List.set_cons_succ]
  refine wpList_plain rfl (fun K hK => ?_)
  refine opr_fldL1 rfl rfl (hK _ _ ?_)
  clear hK K
  simp only [Act.put, List.setIfInBounds_toArray, List.set_cons_zero, List.set_cons_succ]
  refine wpList_plain rfl (fun K hK => ?_)
  refine opr_ldSs (v := vL) (hN1.row RG.out) (by decide) rfl rfl rfl (hK _ _ ?_)
  clear hK K
  simp only [Act.put, List.setIfInBounds_toArray, List.set_cons_zero, List.set_cons_succ]
  refine wpList_plain rfl (fun K hK => ?_)
  obtain ⟨v18, w2, hrun, hO2, hG2⟩ := run_appP hO1 (H.out.parts.keep (KeepBut.below hN1)) (by have := HN.out; omega) hN1.out.size 26
  refine opr_append rfl rfl rfl hrun (hK _ _ ?_)
  clear hrun
  clear hK K
  simp only [Act.put, List.setIfInBounds_toArray, List.set_cons_zero, List.set_cons_succ]
  have hN2 : NewT w w2 := NewT.of (hN1.out.grown hG2 hN1.out.size (fun k e => (hO1.lt k e).1))
  refine wpList_plain rfl (fun K hK => ?_)
  refine opr_bs0O (B := w2.heap.size) (Nat.le_refl _) rfl (fun v19 w3 hN3 hO3 => hK _ _ ?_)
  clear hK K
  simp only [Act.put, List.setIfInBounds_toArray, List.set_cons_zero, List.set_cons_succ]
  refine wpList_plain rfl (fun K hK => ?_)
  refine opr_move (.inl rfl) (hK _ _ ?_)
  clear hK K
  simp only [Act.put, List.setIfInBounds_toArray, List.set_cons_zero, List.set_cons_succ]
  refine wpList_plain rfl (fun K hK => ?_)
  obtain ⟨v21, w4, hrun, hO4, hG4, _⟩ := run_appB_two (show OwnB w3 w2.heap.size v19 [] from hO3) (HU.out.keep (KeepBut.below (NewT.trans _ _ _ hN2 hN3))) (by simp; omega) hN3.out.size 33
  refine opr_append rfl rfl rfl hrun (hK _ _ ?_)
  clear hrun
  clear hK K
  simp only [Act.put, List.setIfInBounds_toArray, List.set_cons_zero, List.set_cons_succ]
  rw [List.nil_append] at hO4
  have hN4 : NewT w2 w4 := NewT.of (hN3.out.grown hG4 hN3.out.size (fun k e => ((show OwnB w3 w2.heap.size v19 [] from hO3).lt k e).1))
  have hF4 := (OwnB.fresh hO4).rdL (L := v18.ownBlock.toList ++ (gy :: gr :: M)) (fun k hk => by
    rcases List.mem_append.1 hk with hk | hk
    · exact (hO2.lt k (by simpa using hk)).2
    · exact Nat.lt_of_lt_of_le (HM.out k hk) hN2.out.size)
  obtain ⟨A4, c4, e4, _⟩ := hO4.cap
  subst e4
  refine wpList_plain rfl (fun K hK => ?_)
  refine opr_bs1V rfl rfl (fun v22 w5 hN5 hv5 => hK _ _ ?_)
  clear hK K
  simp only [Act.put, List.setIfInBounds_toArray, List.set_cons_zero, List.set_cons_succ]
  refine wpList_plain rfl (fun K hK => ?_)
  have hN25 := NewT.trans _ _ _ hN4 hN5
  obtain ⟨v23, w6, hrun, hO6, hG6⟩ := run_app1 (hO2.keep hN25) hv5 (by have := HN.out; simp; omega) (NewT.trans _ _ _ hN2 hN25).out.size 26
  refine opr_append rfl rfl rfl hrun (hK _ _ ?_)
  clear hrun
  clear hK K
  simp only [Act.put, List.setIfInBounds_toArray, List.set_cons_zero, List.set_cons_succ]
  refine wpList_plain rfl (fun K hK => ?_)
  refine opr_move (.inr rfl) (hK _ _ ?_)
  clear hK K
  refine wpList_end rfl ?_
  simp only [Act.put, List.setIfInBounds_toArray, List.set_cons_zero, List.set_cons_succ]
  have hN6 : NewT w w6 := NewT.of ((NewT.trans _ _ _ hN2 hN25).out.grown hG6 (NewT.trans _ _ _ hN2 hN25).out.size (fun k e => (hO2.lt k e).1))
  have hP6 := parts_snoc H.out.parts hN6 hO6 (parts_grow (hN5.rd hF4) hG6) HM.out
  have HN6 := Lib.hid hN6
  have HP6 := Lib.hid hP6
  have RG6 := Lib.hid (hN6.row RG.out)
  have HPS : Hid (Parts w6 v23 (ps.map (·.2) ++ [b])) := Lib.hid ⟨_, ⟨hP6.more (fun k _ _ => by simp), by simp⟩⟩
  obtain ⟨A6, n6, c6, e6⟩ : ∃ A n c, v23 = Value.slice A n c := by obtain ⟨A, c, e, _⟩ := hO6.cap; exact ⟨A, _, c, e⟩
  have E6 := Lib.hid e6
  clear e6
  have H6 := Lib.hid (H.out.disk.new hN6)
  clear hN1 hO1 hG2 hN2 hN3 hO3 hO4 hG4 hN4 hF4 hN5 hv5 hN25 hO6 hG6 hN6 hP6 hO2
  go_simp
  go_upto_region 6 with fail
  refine wp_region_rely_tail (NewT) [SV.eq (.pointer (some ⟨gy, 0, none⟩)), SV.eq (.pointer (some ⟨gy, 0, none⟩)), SV.eq (.pointer (some ⟨gy, 0, none⟩)), SV.eq (.pointer (some ⟨gr, 0, none⟩)), SV.eq (v23), svRd (zz)] [([(0, none)], none), ([(24, some 0)], none), ([(25, some 1)], none), ([(26, some 2)], none), ([(5, none)], none), ([(28, some 4)], none)] 38 6 (by kernel_rfl) rfl rfl (Nat.zero_lt_succ _) (by kernel_rfl) (by kernel_rfl) (by kernel_rfl) NewT.trans (NewT.drew _) (Nat.le_of_ble_eq_true rfl) ⟨?_, ?_, ?_, ?_, ?_, ?_, trivial⟩ ?_
  · exact fun a wx hT hF K hK => rely_wp rfl (opr_move (.inl rfl) (hK _ _ (NewT.refl _) hF.1))
  · exact fun a wx hT hF K hK => rely_wp rfl (opr_nilc rfl hF.1 (hK _ _ (NewT.refl _) rfl))
  · exact fun a wx hT hF K hK => rely_wp rfl (opr_fldL0 rfl hF.1 (hK _ _ (NewT.refl _) rfl))
  · exact fun a wx hT hF K hK => rely_wp rfl (opr_ldRD (hT.row RG6.out) (by decide) rfl rfl hF.1 (hK _ _ (NewT.refl _) rfl))
  · exact fun a wx hT hF K hK => rely_wp rfl (opr_move (.inl rfl) (hK _ _ (NewT.refl _) hF.1))
  · exact fun a wx hT hF K hK => rely_wp rfl (opr_cv ((by rw [← HZ.out]; exact RLaid_cv hX _ (ps.map (·.2)) b wx (hT.tables (HN6.out.tables HT.out)) (hT.partsL HPS.out) (by have := HN.out; simp; omega) HLL.out)) rfl Tryd.func34 (by kernel_rfl) (by kernel_rfl) (evs1 hF.1) hK)
  · intro wb kb
    iterate 5 (intro u h; obtain rfl := Eq.symm (h (by simp)); clear h)
    intro u29 h; have g29 := h (by simp); clear h; replace g29 := show (svRd (zz)).pred u29 wb from g29
    refine relyEnd_nil rfl ?_
    simp only [Act.put, List.setIfInBounds_toArray, List.set_cons_zero, List.set_cons_succ]
    refine wpList_plain rfl (fun K hK => ?_)
    refine opr_call rfl Tryd.func38 (by kernel_rfl) (by kernel_rfl) (by simp only [List.map_toArray, List.map_cons, List.map_nil, eval_tmp]; rfl) ((RWrite_ok gr (gy :: M) vd vl _ room D L zz wb (H6.out.new kb) (fun k hk => Nat.lt_of_lt_of_le (HM.out k (by simp at hk ⊢; rcases hk with h | h | h <;> simp [h])) (NewT.trans _ _ _ HN6.out kb).out.size) g29 HR.out).mono ?_)
    rintro _ w8 ⟨rfl, vl', hR8, hA8⟩
    refine ⟨_, rfl, hK _ _ ?_⟩
    clear hK K
    simp only [Act.put, List.setIfInBounds_toArray, List.set_cons_zero, List.set_cons_succ]
    refine wpList_plain rfl (fun K hK => ?_)
    refine opr_move (.inr rfl) (hK _ _ ?_)
    clear hK K
    refine wpList_end rfl ?_
    simp only [Act.put, List.setIfInBounds_toArray, List.set_cons_zero, List.set_cons_succ]
    go_simp
    have RG8 := Lib.hid (hR8.keep.row (by simpa using H.out.ne) (kb.row RG6.out))
    have HA8 := Lib.hid hA8
    have HR8 := Lib.hid hR8
    have HP8 := Lib.hid (((HP6.out.keep (KeepBut.below kb)).keep (hR8.keep.more (by simp))))
    clear hA8 hR8
    obtain rfl := E6.out
    go_upto_region 8 with fail
    refine wp_region_lit ?_
    refine wpList_plain rfl (fun K hK => ?_)
    refine opr_move (.inl rfl) (hK _ _ ?_)
    clear hK K
    simp only [Act.put, List.setIfInBounds_toArray, List.set_cons_zero, List.set_cons_succ]
    refine wpList_plain rfl (fun K hK => ?_)
    refine opr_move (.inl rfl) (hK _ _ ?_)
    clear hK K
    simp only [Act.put, List.setIfInBounds_toArray, List.set_cons_zero, List.set_cons_succ]
    refine wpList_plain rfl (fun K hK => ?_)
    refine opr_nilc rfl rfl (hK _ _ ?_)
    clear hK K
    simp only [Act.put, List.setIfInBounds_toArray, List.set_cons_zero, List.set_cons_succ]
    refine wpList_plain rfl (fun K hK => ?_)
    refine opr_fldL1 rfl rfl (hK _ _ ?_)
    clear hK K
    simp only [Act.put, List.setIfInBounds_toArray, List.set_cons_zero, List.set_cons_succ]
    refine wpList_plain rfl (fun K hK => ?_)
    refine opr_put1 (F := rlF gr (.slice A6 n6 c6)) rfl rfl rfl RG8.out (by decide) info_ss1 rfl (fun i hi => rlF_set _ _ _ i hi) ?_
    intro w9 hR9 r9
    refine hK _ _ ?_
    clear hK K
    refine wpList_end rfl ?_
    simp only [Act.put, List.setIfInBounds_toArray, List.set_cons_zero, List.set_cons_succ]
    go_simp
    go_wp2
    go_ret
    have hK9 := hR9.keep.more (L' := gy :: gr :: M) (by simp)
    have hg := HM.out gy (by simp)
    have hg' := HM.out gr (by simp)
    rw [HZ.out]
    refine ⟨rfl, RW.trans _ _ _ (RW.new hg (NewT.trans _ _ _ HN6.out kb)) (RW.trans _ _ _ (RW.snd HR8.out) (RW.fst hR9)), vl', _, _, r9, ?_, HP8.out.keep hK9, H.out.ne⟩
    exact ⟨hR9.keep.row (by simpa using fun e : gr = gy => H.out.ne e.symm) HA8.out.row, HA8.out.done.keep (hR9.keep.more (by simp)), HA8.out.late.keep (hR9.keep.more (by simp)), HA8.out.fits, HA8.out.room⟩
end Go.Proofs.YtbejolbknimmmaaDoor
/- The entry that the reference's reader finds; where its log ends; its boxes. -/
namespace Go.Proofs.YtbejolbknimmmaaDoor
open Go Go.RowKit
set_option maxRecDepth 8000
set_option linter.all false
theorem goB_put3 (l r : List UInt8) (most : Int) (hl : l.length ≤ 1000000) (hm : (l.length : Int) ≤ most) : goB (numL l.length ++ l ++ r) most = (l, sz l.length + l.length, 0) := by
  have hg := goN_put l.length (by omega) (l ++ r)
  rw [← List.append_assoc] at hg
  have hd : (numL l.length ++ l ++ r).drop (sz l.length) = l ++ r := by
    rw [List.append_assoc, ← numL_length l.length]; simp
  unfold goB
  rw [hg]
  simp only
  rw [if_neg (by simp), if_neg (by omega), if_neg (by rw [List.length_append, List.length_append, numL_length]; omega), hd, List.take_left]
theorem goB_most (l : List UInt8) : (goB l 2000).1.length ≤ 2000 := by
  unfold goB
  split
  · simp
  · split
    · simp
    · split
      · simp
      · rename_i h1 h2 h3
        simp only [List.length_take]
        omega
section
variable {nx : (Nat → UInt8) → List UInt8 → Nat → UInt8} {d : Nat → UInt8} {r e : List UInt8}
theorem candR_of (he : okE e) (h : entL nx mkL d e <+: r) : goB r 2000 = (e, sz e.length + e.length, 0) := by
  obtain ⟨s, rfl⟩ := h
  have h2 := he.2
  unfold entL
  rw [List.append_assoc (numL e.length ++ e)]
  exact goB_put3 _ _ _ (by omega) (by omega)
theorem nextR_none (h : (goB r 2000).2.2 ≠ 0 ∨ (goB r 2000).1 = [] ∨ ¬ entL nx mkL d (goB r 2000).1 <+: r) : ∀ e, okE e → ¬ entL nx mkL d e <+: r := fun e he hp => by
  have := candR_of he hp
  rw [this] at h
  rcases h with h | h | h
  · exact h rfl
  · have h1 := he.1; simp only at h; subst h; simp at h1
  · exact h hp
theorem isLog_end {S : List UInt8} {es : List (List UInt8)} (hok : ∀ e ∈ es, okE e) (hp : encL nx mkL hash0 es <+: S) (hn : ∀ e, okE e → ¬ entL nx mkL (chL nx hash0 es) e <+: S.drop (encL nx mkL hash0 es).length) : IsLog nx mkL hash0 S es := by
  refine ⟨hok, hp, fun e he h => hn e he ?_⟩
  obtain ⟨s, rfl⟩ := hp
  rw [encL_snoc, List.prefix_append_right_inj] at h
  rwa [List.drop_left]
theorem encL_more {S : List UInt8} {es : List (List UInt8)} {e : List UInt8} (hp : encL nx mkL hash0 es <+: S) (h : entL nx mkL (chL nx hash0 es) e <+: S.drop (encL nx mkL hash0 es).length) : encL nx mkL hash0 (es ++ [e]) <+: S := by
  obtain ⟨s, rfl⟩ := hp
  rw [List.drop_left] at h
  rw [encL_snoc, List.prefix_append_right_inj]
  exact h
end
theorem RefAt.wider {w : World} {g gy : Nat} {M : List Nat} {vd vl : Value} {z : Nat} {D L : List UInt8} (h : RefAt w g M vd vl z D L) (hg : w.heap.size ≤ gy) : RefAt w g (gy :: M) vd vl z D L :=
  ⟨h.row, h.done.more fun k hk hn => by simp at hn ⊢; exact ⟨hn.1, by omega, hn.2⟩, h.late.more fun k hk hn => by simp at hn ⊢; exact ⟨hn.1, by omega, hn.2⟩, h.fits, h.room⟩
theorem PartsAt.wider {w : World} {gy : Nat} {M : List Nat} {v : Value} {ps : List (Value × List UInt8)} (h : PartsAt w M v ps) (hg : w.heap.size ≤ gy) : PartsAt w (gy :: M) v ps :=
  h.more fun k hk hn => by simp at hn ⊢; exact ⟨by omega, hn⟩
theorem pre_take {y S : List UInt8} {k : Nat} : y <+: S.drop k ↔ (S.drop k).take y.length = y := by
  rw [List.prefix_iff_eq_take]; exact eq_comm
theorem run_bld_rr (A : Option Addr) (n c : Nat) (q : Int) (w : World) : (Instr.build 73 #[(0, .slice A n c), (1, .int .i64 q)]).run Tryd.prog w = .ok (.agg #[.slice A n c, .int .i64 q, .int .i64 0]) w := by kernel_rfl
theorem run_bld_rl (g : Nat) (A : Option Addr) (n c : Nat) (w : World) : (Instr.build 45 #[(0, .pointer (some ⟨g, 0, none⟩)), (1, .slice A n c)]).run Tryd.prog w = .ok (.agg (rowA 2 (rlF g (.slice A n c)))) w := by kernel_rfl
section
variable {a : Act} {w : World} {o : Oper} {K : Act → World → Prop} {Q : Exit → Act → World → Prop} {x y : Operand}
theorem opr_bldRR {A : Option Addr} {n c q : Nat} (ho : o.op = .build 73 #[(0, x), (1, y)]) (hx : a.eval x = .slice A n c) (hy : a.eval y = .int .i64 (q : Int)) (h : K (a.put o.dst (.agg (rowA 3 (rrF (.slice A n c) q 0)))) w) : o.wp Tryd.prog a w K Q := by
  obtain ⟨dst, op, type, pos, after, guard⟩ := o
  simp only at ho
  subst ho
  exact opr_val (s := Instr.build 73 #[(0, a.eval x), (1, a.eval y)]) (by simp [execOp]) (by rw [hx, hy]; exact run_bld_rr A n c q w) h
theorem opr_boxN {P : Program} {t n : Nat} {F : Nat → Value} (ho : o.op = .box t x) (hx : a.eval x = .agg (rowA n F)) (h : ∀ w', NewT w w' → w'.rowIs w.heap.size t n F → K (a.put o.dst (.pointer (some ⟨w.heap.size, 0, none⟩))) w') : o.wp P a w K Q :=
  opr_boxA ho hx (h _ (NewT.alloc _ _) (rowIs_box w t n F))
theorem opr_bldRL {g : Nat} {A : Option Addr} {n c : Nat} (ho : o.op = .build 45 #[(0, x), (1, y)]) (hx : a.eval x = .pointer (some ⟨g, 0, none⟩)) (hy : a.eval y = .slice A n c) (h : K (a.put o.dst (.agg (rowA 2 (rlF g (.slice A n c))))) w) : o.wp Tryd.prog a w K Q := by
  obtain ⟨dst, op, type, pos, after, guard⟩ := o
  simp only at ho
  subst ho
  exact opr_val (s := Instr.build 45 #[(0, a.eval x), (1, a.eval y)]) (by simp [execOp]) (by rw [hx, hy]; exact run_bld_rl g A n c w) h
end
end Go.Proofs.YtbejolbknimmmaaDoor
