/- A reader reads bytes: take[[]byte], Bytes. -/
import Derived.Test.YteelddmegmojpaaW7
namespace Go.Proofs.Yteelddmegmojpaa
open Go Go.RowKit

/-- Bytes read as bytes of a limit: these, how many bytes they have with their number, the error. -/
def goB (l : List UInt8) (most : Int) : List UInt8 × Nat × Nat :=
  if (goN l 0 0).2.2 ≠ 0 then ([], 0, (goN l 0 0).2.2) else if most < ((goN l 0 0).1 : Int) then ([], 0, 4) else if l.length < (goN l 0 0).2.1 + (goN l 0 0).1 then ([], 0, 3)
  else ((l.drop (goN l 0 0).2.1).take (goN l 0 0).1, (goN l 0 0).2.1 + (goN l 0 0).1, 0)
theorem goB_bounds (l : List UInt8) (most : Int) : (goB l most).2.2 = 0 → 0 < (goB l most).2.1 ∧ (goB l most).2.1 ≤ l.length := by
  unfold goB
  split
  · simp; omega
  · rename_i h
    have := goN_bounds l 0 0 (by simpa using h)
    split
    · simp
    · split
      · simp
      · simp; omega
theorem goB_err (l : List UInt8) (most : Int) : (goB l most).2.2 ≠ 0 → goB l most = ([], 0, (goB l most).2.2) := by
  unfold goB
  split
  · simp
  · split
    · simp
    · split <;> simp
theorem slice_mid (b o n cap k m : Nat) (h : k + m ≤ cap) (w : World) : (Instr.slice 22 (.slice (some ⟨b, o, none⟩) n cap) (some (.int .i64 (k : Int))) (some (.int .i64 ((k : Int) + (m : Int)))) none).run Try.prog w = .ok (.slice (some (if cap = k then ⟨b, o, none⟩ else (⟨b, o, none⟩ : Addr).add k)) m (cap - k)) w := by
  have hsz : (sizeOf 5).run Try.prog w = .ok 1 w := by
    obtain ⟨i0, hi, _, hz1, _⟩ := info_parts info5
    simp [sizeOf, typeInfo, hi, hz1]
  have h3 : (0 : Int) ≤ (k : Int) + (m : Int) ∧ (k : Int) + (m : Int) ≤ (cap : Int) := by omega
  have h4 : k ≤ ((k : Int) + (m : Int)).toNat := by omega
  have h6 : ((k : Int) + (m : Int)).toNat - k = m := by omega
  by_cases h5 : cap = k
  · simp [Instr.slice, run_underlying Try.underlying22, Instr.sliceBounds, Instr.sliceBound, asIntOf, hsz, h3, h4, h5, h6, Addr.add_zero']
    omega
  · simp [Instr.slice, run_underlying Try.underlying22, Instr.sliceBounds, Instr.sliceBound, asIntOf, hsz, h3, h4, h5, h6]
/-- The m bytes behind the first k. -/
theorem rd_mid {w : World} {L : List Nat} {b o n cap k m : Nat} {l : List UInt8} (h : RdV w L (.slice (some ⟨b, o, none⟩) n cap) l) (hk : k + m ≤ n) :
    RdV w L (.slice (some (if cap = k then ⟨b, o, none⟩ else (⟨b, o, none⟩ : Addr).add k)) m (cap - k)) ((l.drop k).take m) := by
  obtain ⟨A, c, hv, h1, h2, h3⟩ := h
  cases hv
  have hlen : ((l.drop k).take m).length = m := by simp; omega
  refine ⟨some (if cap = k then ⟨b, o, none⟩ else (⟨b, o, none⟩ : Addr).add k), cap - k, by rw [hlen], by rw [hlen]; omega, by omega, fun h0 => ?_⟩
  rw [hlen] at h0
  obtain ⟨b', o', hA, hb, hc⟩ := h3 (by omega)
  cases hA
  refine ⟨b, o + k, by rw [if_neg (by omega), Addr.add_mid], hb, fun i hi => ?_⟩
  rw [hlen] at hi
  rw [Nat.add_assoc, hc (k + i) (by omega)]
  simp [bAt, List.getElem?_take, hi]
set_option maxHeartbeats 2000000 in
theorem bytes1_any (v : Value) (l : List UInt8) (L : List Nat) (g : Nat) (most : Int) (w : World) (h : RdV w L v l) (hl : l.length ≤ 1000000) (hm : w.cell? ⟨g, 0, none⟩ = some (.int .i64 most)) :
    Calls Try.prog 33 #[v, .pointer (some ⟨g, 0, none⟩)] w fun ev w' => ∃ u, ev = .returned (.tuple #[u, .int .i64 ((goB l most).2.1 : Int), .int .i64 ((goB l most).2.2 : Int)]) ∧ NewT w w' ∧ (svRdN w (goB l most).1).pred u w' := by
  have H := Lib.hid h
  obtain ⟨A, cap, rfl, h1, h2, h3⟩ := h
  unfold maxLen at h2
  obtain ⟨gg, hg⟩ : ∃ g, goN l 0 0 = g := ⟨_, rfl⟩
  have hb := goN_bounds l 0 0
  have her := goN_err l 0 0
  unfold goB
  rw [hg] at hb her ⊢
  obtain ⟨n, k, er⟩ := gg
  simp only at hb her ⊢
  have Hb := Lib.hid hb
  have Her := Lib.hid her
  have Hg := Lib.hid hg
  have Hm := Lib.hid hm
  clear hb her hg hm
  have hgl : g < w.heap.size := World.block_lt_of_cell? _ _ Hm.out
  by_cases he : er = 0
  · subst he
    obtain ⟨hn, hk0, hkl⟩ := Hb.out rfl
    rw [if_neg (by simp)]
    clear Hb Her
    obtain ⟨b, o, rfl, _, _⟩ := h3 (by omega)
    clear h3
    by_cases hmo : most < (n : Int)
    · rw [if_pos hmo]
      go_enter Try.func33, Try.ntmps33
      go_wp2_with (go_at_call 29; refine (number_cv _ l L w H.out hl).eq.mono ?_; rintro _ w2 ⟨rfl, hB2⟩; rw [Hg.out]; simp only [numV]; have cm := (hB2.cell (p := ⟨g, 0, none⟩) hgl).trans Hm.out)
      go_ret3
      exact ⟨_, rfl, hB2, fun _ _ => rdV_nil _ _⟩
    rw [if_neg hmo]
    by_cases hsh : l.length < k + n
    · rw [if_pos hsh]
      have hd : ((l.length : Int) - (k : Int)) < (n : Int) := by omega
      go_enter Try.func33, Try.ntmps33
      go_wp2_with (go_at_call 29; refine (number_cv _ l L w H.out hl).eq.mono ?_; rintro _ w2 ⟨rfl, hB2⟩; rw [Hg.out]; simp only [numV]; have cm := (hB2.cell (p := ⟨g, 0, none⟩) hgl).trans Hm.out)
      go_ret3
      exact ⟨_, rfl, hB2, fun _ _ => rdV_nil _ _⟩
    · rw [if_neg hsh]
      have hd : ¬ ((l.length : Int) - (k : Int)) < (n : Int) := by omega
      have hsl := slice_mid b o l.length cap k n (by omega)
      have hfr := rd_mid (k := k) (m := n) H.out (by omega)
      have hfl : ((l.drop k).take n).length ≤ 1000000 := by simp; omega
      obtain ⟨ad, had⟩ : ∃ ad, (if cap = k then (⟨b, o, none⟩ : Addr) else (⟨b, o, none⟩ : Addr).add k) = ad := ⟨_, rfl⟩
      rw [had] at hsl hfr
      generalize (l.drop k).take n = t at hfr hfl ⊢
      clear had
      have Hfr := Lib.hid hfr
      clear hfr
      go_enter Try.func33, Try.ntmps33
      go_wp2_with (first
        | (go_at_call 29; refine (number_cv _ l L w H.out hl).eq.mono ?_; rintro _ w2 ⟨rfl, hB2⟩; rw [Hg.out]; simp only [numV]; have cm := (hB2.cell (p := ⟨g, 0, none⟩) hgl).trans Hm.out)
        | (go_at_call 27; refine Calls.mono (Clone_cv _ t L w2 (NewT.rd hB2 Hfr.out) hfl) ?_; rintro _ w3 ⟨u, rfl, hN3, hu⟩))
      go_ret3
      refine ⟨u, rfl, NewT.trans _ _ _ hB2 hN3, fun L hL => hu L fun k hk => ?_⟩
      have := hL k hk
      have := hB2.size
      omega
  · rw [if_pos he]
    obtain ⟨hz, h23⟩ := Her.out he
    simp only [Prod.mk.injEq] at hz
    obtain ⟨rfl, rfl, _⟩ := hz
    have hbe : ((er : Int) != 0) = true := by simp; omega
    clear Hb Her he h3
    go_enter Try.func33, Try.ntmps33
    go_wp2_with (go_at_call 29; refine (number_cv _ l L w H.out hl).eq.mono ?_; rintro _ w2 ⟨rfl, hB2⟩; rw [Hg.out]; simp only [numV])
    go_ret3
    exact ⟨_, rfl, hB2, fun _ _ => rdV_nil _ _⟩
theorem svRdN_step {W w w' : World} {R : Nat} {u : Value} {t : List UInt8} (h : (svRdN W t).pred u w) (hT : RT R w w') (hR : R < W.heap.size) : (svRdN W t).pred u w' := fun L hL => by
  have h1 : RdV w (R :: L) u t := h (R :: L) (fun k hk => by rcases List.mem_cons.1 hk with rfl | hk; exact hR; exact hL k hk)
  exact (h1.keep (hT.keep.more fun k hk => by simp at hk; simp [hk])).less fun k hk => by simp [hk]
theorem svRdN_base {W w w' : World} {u : Value} {t : List UInt8} (h : (svRdN W t).pred u w') (hB : w.heap.size ≤ W.heap.size) : (svRdN w t).pred u w' := fun L hL => h L fun k hk => by have := hL k hk; omega
/-- What bytes that are asked for turn a reader that isn't bad to. -/
def outB (l : List UInt8) (most : Int) : List UInt8 × List UInt8 × Nat := if (goB l most).2.2 = 0 then ((goB l most).1, l.drop (goB l most).2.1, 0) else ([], [], (goB l most).2.2)
set_option maxHeartbeats 2000000 in
theorem takeB_good (R g : Nat) (most : Int) (l : List UInt8) (w : World) (h : Rdr w R l 0) (hm : w.cell? ⟨g, 0, none⟩ = some (.int .i64 most)) (hl : l.length ≤ 1000000) :
    Calls Try.prog 32 #[.pointer (some ⟨R, 0, none⟩), .func (.func 33) #[] #[.pointer (some ⟨g, 0, none⟩)]] w fun ev w' => ∃ u, ev = .returned u ∧ (svRdN w (outB l most).1).pred u w' ∧ RT R w w' ∧ Rdr w' R (outB l most).2.1 ((outB l most).2.2 : Int) := by
  have H := Lib.hid h
  have hR := h.lt
  have hgl : g < w.heap.size := World.block_lt_of_cell? _ _ hm
  have Hm := Lib.hid hm
  clear h hm
  obtain ⟨gg, hg⟩ : ∃ g, goB l most = g := ⟨_, rfl⟩
  have hb := goB_bounds l most
  have her := goB_err l most
  unfold outB
  rw [hg] at hb her ⊢
  obtain ⟨n, k, er⟩ := gg
  simp only at hb her ⊢
  have Hb := Lib.hid hb
  have Her := Lib.hid her
  have Hg := Lib.hid hg
  clear hb her hg
  by_cases he : er = 0
  · subst he
    obtain ⟨hk0, hkl⟩ := Hb.out rfl
    rw [if_pos rfl]
    clear Hb Her
    obtain ⟨v, r1, rs, _⟩ := H.out
    have r2 := rs.rd
    obtain ⟨A, cap, rfl, hc1, hc2, hA⟩ := id r2
    obtain ⟨b, o, rfl, _, _⟩ := hA (by omega)
    clear hA
    have hsl := slice_from (P := Try.prog) 22 5 Try.underlying22 info5s ⟨b, o, none⟩ l.length cap k (by omega)
    have hfr : Rest w R _ _ := fun L hL => rd_from (k := k) (rs L hL) (by omega)
    obtain ⟨ad, had⟩ : ∃ ad, (if cap = k then (⟨b, o, none⟩ : Addr) else (⟨b, o, none⟩ : Addr).add k) = ad := ⟨_, rfl⟩
    rw [had] at hsl hfr
    clear had
    go_enter Try.func32, Try.ntmps32
    go_wp2_with (first
      | (go_at_call 24; refine (Bad_any R l 0 w H.out).eq.mono ?_; rintro _ w1 ⟨rfl, hB1⟩; have r1' := NewT.row hB1 r1; have r2' := NewT.rd hB1 r2; have c0 := r1'.cell (i := 0) (by omega); simp only [if_true] at c0)
      | (go_at_call 33; refine (bytes1_any _ l [R] g most w1 r2' hl ((hB1.cell (p := ⟨g, 0, none⟩) hgl).trans Hm.out)).mono ?_; rintro _ w2 ⟨u, rfl, hB2, hu⟩; rw [Hg.out] at hu ⊢; simp only at hu ⊢; have r3 := NewT.row hB2 r1'; have c2 := r3.cell (i := 0) (by omega); have f2 := r3.frozen 0; simp only [if_true] at c2))
    go_ret
    have hN := NewT.trans _ _ _ hB1 hB2
    exact ⟨_, rfl, svRdN_step (R := R) (svRdN_base hu hB1.size) (RT.setCell _ 0 _) hR, RT.trans _ _ _ (RT.new hR hN) (RT.setCell _ 0 _), Rdr.put r3 rfl (hfr.new hN) rfl rfl⟩
  · rw [if_neg he]
    have hz := Her.out he
    simp only [Prod.mk.injEq] at hz
    obtain ⟨rfl, rfl, _⟩ := hz
    obtain ⟨v, r1, rs, _⟩ := H.out
    have r2 := rs.rd
    have hbe : ((er : Int) != 0) = true := by simp; omega
    have hne : (er : Int) ≠ 0 := by omega
    have Hne := Lib.hid hne
    clear Hb Her he hne
    go_enter Try.func32, Try.ntmps32
    go_wp2_with (first
      | (go_at_call 24; refine (Bad_any R l 0 w H.out).eq.mono ?_; rintro _ w1 ⟨rfl, hB1⟩; have r1' := NewT.row hB1 r1; have r2' := NewT.rd hB1 r2; have c0 := r1'.cell (i := 0) (by omega); simp only [if_true] at c0)
      | (go_at_call 33; refine (bytes1_any _ l [R] g most w1 r2' hl ((hB1.cell (p := ⟨g, 0, none⟩) hgl).trans Hm.out)).mono ?_; rintro _ w2 ⟨u, rfl, hB2, hu⟩; rw [Hg.out] at hu ⊢; simp only at hu ⊢)
      | (go_at_call 25; refine (Fail_good R l er Hne.out w2 (H.out.new (NewT.trans _ _ _ hB1 hB2))).mono ?_; rintro _ w3 ⟨rfl, hT3, hR3⟩))
    go_ret
    exact ⟨_, rfl, fun _ _ => rdV_nil _ _, RT.trans _ _ _ (RT.new hR (NewT.trans _ _ _ hB1 hB2)) hT3, hR3⟩
set_option maxHeartbeats 1000000 in
theorem takeB_bad (R g : Nat) (l : List UInt8) (e : Int) (he : e ≠ 0) (w : World) (h : Rdr w R l e) :
    Calls Try.prog 32 #[.pointer (some ⟨R, 0, none⟩), .func (.func 33) #[] #[.pointer (some ⟨g, 0, none⟩)]] w fun ev w' => ev = .returned (.slice none 0 0) ∧ RT R w w' ∧ Rdr w' R l e := by
  have H := Lib.hid h
  have hR := h.lt
  have hd : (e != 0) = true := by simpa using he
  clear h he
  go_enter Try.func32, Try.ntmps32
  go_wp2_with (go_at_call 24; refine (Bad_any R l e w H.out).eq.mono ?_; rintro _ w1 ⟨rfl, hB1⟩)
  go_ret
  exact ⟨rfl, RT.new hR hB1, H.out.new hB1⟩
set_option maxHeartbeats 400000 in
theorem RBytes_good (R : Nat) (most : Int) (l : List UInt8) (w : World) (h : Rdr w R l 0) (hl : l.length ≤ 1000000) :
    Calls Try.prog 21 #[.pointer (some ⟨R, 0, none⟩), .int .i64 most] w fun ev w' => ∃ u, ev = .returned u ∧ (svRdN w (outB l most).1).pred u w' ∧ RT R w w' ∧ Rdr w' R (outB l most).2.1 ((outB l most).2.2 : Int) := by
  have H := Lib.hid h
  have hR := h.lt
  clear h
  have r0 := rowIs_box w 3 1 (fun _ => .int .i64 most)
  have hN : NewT w (w.alloc (.cells #[.int .i64 most] 3)) := NewT.alloc _ _
  go_enter Try.func21, Try.ntmps21
  go_wp2_with (go_at_call 32; refine (takeB_good R w.heap.size most l _ (H.out.new hN) (r0.cell (i := 0) (by omega)) hl).mono ?_; rintro _ w1 ⟨u, rfl, hu, hT, hr⟩)
  go_ret
  exact ⟨_, rfl, svRdN_base hu hN.out.size, RT.trans _ _ _ (RT.new hR hN) hT, hr⟩
set_option maxHeartbeats 400000 in
theorem RBytes_bad (R : Nat) (most : Int) (l : List UInt8) (e : Int) (he : e ≠ 0) (w : World) (h : Rdr w R l e) :
    Calls Try.prog 21 #[.pointer (some ⟨R, 0, none⟩), .int .i64 most] w fun ev w' => ev = .returned (.slice none 0 0) ∧ RT R w w' ∧ Rdr w' R l e := by
  have H := Lib.hid h
  have He := Lib.hid he
  have hR := h.lt
  clear h he
  have hN : NewT w (w.alloc (.cells #[.int .i64 most] 3)) := NewT.alloc _ _
  go_enter Try.func21, Try.ntmps21
  go_wp2_with (go_at_call 32; refine (takeB_bad R w.heap.size l e He.out _ (H.out.new hN)).mono ?_; rintro _ w1 ⟨rfl, hT, hr⟩)
  go_ret
  exact ⟨rfl, RT.trans _ _ _ (RT.new hR hN) hT, hr⟩
end Go.Proofs.Yteelddmegmojpaa
