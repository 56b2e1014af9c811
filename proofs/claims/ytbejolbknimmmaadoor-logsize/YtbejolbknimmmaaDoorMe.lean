/- LogSize, walked. -/
import Derived.Test.YtbejolbknimmmaaDoorMd
import Derived.Test.YtbejolbknimmmaaDoorMb
set_option linter.all false
namespace Go.Proofs.YtbejolbknimmmaaDoor
open Go Go.RowKit
set_option maxRecDepth 8000
set_option linter.all false
theorem made_row1 (n : Nat) : madeCells (Value.int .u8 0).cells n = rowA n (fun _ => .int .u8 0) := by
  apply Array.ext_getElem?
  intro i
  by_cases h : i < n
  · rw [rowA_at _ _ _ h]
    simp only [madeCells, Array.getElem?_map, Array.getElem?_range, h, if_true, Option.map_some]
    rw [show i % (Value.int .u8 0).cells.size = 0 from Nat.mod_one i]
    rfl
  · rw [Array.getElem?_eq_none (by rw [size_madeCells]; omega), Array.getElem?_eq_none (by rw [rowA_size]; omega)]
theorem run_makeB (m : Nat) (hm : m ≤ 1000000) (W : World) : (Instr.makeSlice 33 (.int .i64 (m : Int)) (.int .i64 (m : Int))).run Tryd.prog W = .ok (.slice (some ⟨W.heap.size, 0, none⟩) m m) (W.alloc (.cells (rowA m fun _ => .int .u8 0) 5)) := by
  obtain ⟨i0, hi, hz0, hz1, hz2⟩ := info_parts info5
  have := run_make (P := Tryd.prog) W 33 5 i0 _ Tryd.underlying33 hi hz0 .i64 .i64 (m : Int) (m : Int) (by omega) (by omega) (by rw [hz2]; omega) (by omega)
  rw [this, hz1, Int.toNat_natCast, Nat.mul_one, made_row1]
theorem rd_made (m : Nat) (hm : m ≤ 1000000) (W : World) : RdV (W.alloc (.cells (rowA m fun _ => .int .u8 0) 5)) [] (.slice (some ⟨W.heap.size, 0, none⟩) m m) (List.replicate m 0) := by
  refine ⟨some ⟨W.heap.size, 0, none⟩, m, by simp, by simp, by unfold maxLen; omega, fun _ => ⟨W.heap.size, 0, rfl, by simp, fun i hi => ?_⟩⟩
  rw [List.length_replicate] at hi
  rw [Nat.zero_add, (rowIs_box W 5 m (fun _ => .int .u8 0)).cell hi]
  simp [bAt, hi]
  rfl
theorem encL_bound (nx : (Nat → UInt8) → List UInt8 → Nat → UInt8) (m : Nat) (hm : m ≤ 2000) : ∀ (c : Nat → UInt8) (es : List (List UInt8)), (∀ e ∈ es, e.length ≤ m) → (encL nx mkL c es).length ≤ (m + 10) * es.length
  | _, [], _ => by simp [encL]
  | c, e :: es, h => by
    have h1 := encL_bound nx m hm (nx c e) es fun x hx => h x (by simp [hx])
    have h2 := h e (by simp)
    have h3 := sz_small (n := e.length) (by omega)
    have h4 := entL_length nx c e
    rw [encL, List.length_append, List.length_cons, Nat.mul_add, Nat.mul_one]
    omega
set_option maxRecDepth 20000 in
set_option maxHeartbeats 4000000 in
theorem LogSize_walk (v0 : Value) (ls : List (List UInt8)) (w : World) (hT : Tables w) (h1 : Parts w v0 ls) : Calls Tryd.prog 6 #[v0] w fun e w' => e = .returned (.bool true) ∧ Below w.heap.size w w' := by
  obtain ⟨nx, hX⟩ := logH_ex
  obtain ⟨ps, h1, hps⟩ := h1
  have HT := Lib.hid hT
  have H1L : Hid (1 < w.heap.size) := Lib.hid hT.size
  have R1 := Lib.hid h1
  obtain ⟨A1, c1, rfl, _⟩ := h1
  clear hT
  by_cases g1 : 15 < (ps.length : Int)
  · go_enter Tryd.func6, Tryd.ntmps6
    go_wp2_with (go_at_call 9; refine (alive9_c w HT.out).eq.mono ?_; rintro _ w1 ⟨rfl, hN1⟩)
    go_ret
    exact ⟨rfl, hN1⟩
  have hmax : ps.length ≤ 15 := by omega
  have HMAX := Lib.hid hmax
  go_enter Tryd.func6, Tryd.ntmps6
  go_wp2_with (first
    | (go_at_call 9; refine (alive9_c w HT.out).eq.mono ?_; rintro _ w1 ⟨rfl, hN1⟩; have N1 : Hid (NewT w w1) := Lib.hid hN1; clear hN1)
    | (go_at_call 12; refine (New_c 9000 (by omega) (by omega) w1).mono ?_; rintro _ w2 ⟨rfl, hN, hD⟩; have H2 := Lib.hid hD; have N2 := Lib.hid (NewT.trans _ _ _ N1.out hN); have Q1 := Lib.hid N1.out.out.size; clear hN hD)
    | (go_at_call 11
       refine (Open_c hX w1.heap.size _ 9000 [] 0 w2 (HT.out.below N2.out.out) H2.out [] (again nx mkL hash0 [] (by simp)) (Nat.lt_of_lt_of_le H1L.out Q1.out)).mono ?_
       rintro _ w3 ⟨g, v3, lv, ps3, rfl, hg, hD3, hL3, hps3, hP⟩
       obtain ⟨A3, c3, rfl, _⟩ := parts_es (hP [] (by simp)) hps3
       have H3 := Lib.hid hL3
       have N3 := Lib.hid (hD3.newT N2.out Q1.out)
       clear hD3 hL3 hps3 hP hg))
  go_loopw [7, 8] (fun n i wr => ∃ (k : Nat) (es : List (List UInt8)) (v : Value) (m : Nat), k ≤ ps.length ∧ n = .int .i64 (m : Int) ∧ i = .int .i64 (k : Int) ∧ Hid (LogAt nx wr g w1.heap.size v 9000 es m) ∧ Hid (m = (encL nx mkL hash0 es).length ∧ es.length ≤ k ∧ (∀ e ∈ es, e.length ≤ 300)) ∧ Hid (NewT w wr)) (fun _ i _ => ps.length - (intOf i).toNat)
  case atStart => exact ⟨0, [], v3, 0, by omega, rfl, rfl, H3, Lib.hid ⟨rfl, by simp, by simp⟩, N3⟩
  case round =>
    obtain ⟨k, es, v, m, hk, rfl, rfl, HL, HE, HN⟩ := hrel
    clear H2 N2 H3 N3
    by_cases hlt : k < ps.length
    · have it : (k : Int) < (ps.length : Int) := by omega
      obtain ⟨b, o, rfl, hb, hc⟩ := parts_cell R1.out (by omega)
      obtain ⟨x, hx⟩ : ∃ x, ps[k]? = some x := ⟨_, List.getElem?_eq_getElem hlt⟩
      obtain ⟨u, l⟩ := x
      have hxr : RdV w [] u l := parts_rd R1.out (List.mem_of_getElem? hx)
      have hc : w.cell? ⟨b, o + k, none⟩ = some u := hc k _ hx
      obtain ⟨A4, c4, rfl⟩ := rdV_form hxr
      have HX := Lib.hid hxr
      have HC := Lib.hid hc
      have HB := Lib.hid hb
      have hcell := cell_new HN.out hb hc
      clear hxr hc hx hb
      by_cases h3 : 300 < (l.length : Int)
      · go_wp2
        go_ret
        exact ⟨rfl, HN.out⟩
      by_cases h0 : l = []
      · subst h0
        clear h3
        go_wp2_with (first
          | (go_at_call 17; refine (Append_arg g _ wr (HN.out.rd HX.out)).eq.mono ?_; rintro _ w4 ⟨rfl, hN⟩; have H4 := Lib.hid (HL.out.new hN); have N4 := Lib.hid (NewT.trans _ _ _ HN.out hN); have hcell4 := cell_new N4.out HB.out HC.out; clear hN hcell)
          | (go_at_call 25; clear hcell4; refine Calls.mono (DBytes_c _ v 9000 _ m _ H4.out.disk) ?_; rintro _ w5 ⟨v5, rfl, hN, hv⟩; have H5 := Lib.hid (H4.out.new hN); have N5 := Lib.hid (NewT.trans _ _ _ N4.out hN); obtain ⟨A5, c5, rfl⟩ := rdV_form (FreshB.rd hv); rw [← HE.out.1]; clear hN hv)
          | (go_at_call 29; refine (Lasts_c _ v 9000 _ m _ H5.out.disk).eq.mono ?_; rintro _ w6 ⟨rfl, hN⟩; have H6 := Lib.hid (H5.out.new hN); have N6 := Lib.hid (NewT.trans _ _ _ N5.out hN); clear hN))
        go_roundw
        case rel => exact ⟨k + 1, es, v, m, by omega, rfl, by go_num, H6, Lib.hid ⟨HE.out.1, by have := HE.out.2.1; omega, HE.out.2.2⟩, N6⟩
        case measure => simp [intOf]; omega
      · have hl0 : 0 < l.length := List.length_pos_iff.2 h0
        have hok : okE l := ⟨hl0, by omega⟩
        have h300 : l.length ≤ 300 := by omega
        obtain ⟨q, hq⟩ := hid_ex (encL nx mkL hash0 (es ++ [l])).length
        have hall : ∀ e ∈ es ++ [l], e.length ≤ 300 := fun e he => by
          rcases List.mem_append.1 he with he | he
          · exact HE.out.2.2 e he
          · simp at he; subst he; exact h300
        have hqb : q ≤ 4960 := by
          have hbd := encL_bound nx 300 (by omega) hash0 (es ++ [l]) hall
          rw [hq.out, List.length_append] at hbd
          have := HE.out.2.1
          have := Nat.mul_le_mul_left 310 (show es.length + 1 ≤ 16 by omega)
          simp at hbd
          omega
        obtain ⟨z, hz⟩ := hid_ex (entL nx mkL (chL nx hash0 es) l).length
        have hmz : m + z = q := by rw [← hq.out, encL_snoc, List.length_append, HE.out.1, hz.out]
        have HZ : Hid (esz (l.length : Int) = (z : Int)) := Lib.hid (by rw [esz_ok hok nx (chL nx hash0 es), hz.out])
        have HW : Hid (wrap64 ((m : Int) + (z : Int)) = (q : Int)) := Lib.hid (by unfold wrap64; omega)
        have HOK := Lib.hid hok
        have HALL := Lib.hid hall
        have HQB := Lib.hid hqb
        have il : (0 : Int) < (l.length : Int) := by omega
        have hd0 : decide (0 < l.length) = true := decide_eq_true hl0
        clear h0 hok h300 hall hqb hmz
        go_wp2_with (first
          | (go_at_call 17; refine (Append_ok hX g _ v 9000 es m _ l wr (HT.out.below HN.out.out) HL.out (HN.out.rd HX.out) HOK.out (by rw [hq.out]; have := HQB.out; omega)).mono ?_; rintro _ w4 ⟨rfl, v4, hS, hA⟩; rw [hq.out] at hA; have H4 := Lib.hid hA; have N4 := Lib.hid (hS.newT HN.out Q1.out); have hcell4 := cell_new N4.out HB.out HC.out; clear hS hA hcell)
          | (go_at_call 28; refine (LSize_cv _ (l.length : Int) w4).eq.mono ?_; rintro _ w7 ⟨rfl, hN⟩; rw [HZ.out]; have hws := HW.out; have H7 := Lib.hid (H4.out.new hN); have N7 := Lib.hid (NewT.trans _ _ _ N4.out hN); clear hN)
          | (go_at_call 25; rw [hws]; clear hcell4 hws; refine Calls.mono (DBytes_c _ v4 9000 _ q _ H7.out.disk) ?_; rintro _ w5 ⟨v5, rfl, hN, hv⟩; have H5 := Lib.hid (H7.out.new hN); have N5 := Lib.hid (NewT.trans _ _ _ N7.out hN); obtain ⟨A5, c5, rfl⟩ := rdV_form (FreshB.rd hv); rw [hq.out]; clear hN hv)
          | (go_at_call 29; refine (Lasts_c _ v4 9000 _ q _ H5.out.disk).eq.mono ?_; rintro _ w6 ⟨rfl, hN⟩; have H6 := Lib.hid (H5.out.new hN); have N6 := Lib.hid (NewT.trans _ _ _ N5.out hN); clear hN))
        go_roundw
        case rel => exact ⟨k + 1, es ++ [l], v4, q, by omega, rfl, by go_num, H6, Lib.hid ⟨hq.out.symm, by rw [List.length_append]; have := HE.out.2.1; simp; omega, HALL.out⟩, N6⟩
        case measure => simp [intOf]; omega
    · obtain rfl : k = ps.length := by omega
      have hmk : ∀ W : World, (Instr.makeSlice 33 (.int .i64 2001) (.int .i64 2001)).run Tryd.prog W = .ok (.slice (some ⟨W.heap.size, 0, none⟩) 2001 2001) (W.alloc (.cells (rowA 2001 fun _ => .int .u8 0) 5)) := run_makeB 2001 (by omega)
      have t0 : Hid True := Lib.hid trivial
      go_wp2_with (first
        | (go_at_call 14; clear t0; refine (Put_long g _ (List.replicate 2001 0) _ (rd_made 2001 (by omega) wr) (by rw [List.length_replicate]; omega)).eq.mono ?_; rintro _ w4 ⟨rfl, hN⟩; have N0 := Lib.hid (NewT.trans _ _ _ (NewT.alloc wr _) hN); have H4 := Lib.hid (HL.out.new N0.out); have N4 := Lib.hid (NewT.trans _ _ _ HN.out N0.out); have t1 : Hid True := Lib.hid trivial; clear hN)
        | (go_at_call 14; clear t1; refine (Put_arg g _ w4 (rdV_nil _ _)).eq.mono ?_; rintro _ w5 ⟨rfl, hN⟩; have H5 := Lib.hid (H4.out.new hN); have N5 := Lib.hid (NewT.trans _ _ _ N4.out hN); clear hN)
        | (go_at_call 25; refine Calls.mono (DBytes_c _ v 9000 _ m _ H5.out.disk) ?_; rintro _ w6 ⟨v6, rfl, hN, hv⟩; have N6 := Lib.hid (NewT.trans _ _ _ N5.out hN); obtain ⟨A6, c6, rfl⟩ := rdV_form (FreshB.rd hv); rw [← HE.out.1]; clear hN hv))
      go_ret
      exact ⟨rfl, N6.out⟩
end Go.Proofs.YtbejolbknimmmaaDoor
