/- A reader reads a number: take[int], Num. -/
import Derived.Test.YteelddmegmojpaaW5
namespace Go.Proofs.Yteelddmegmojpaa
open Go Go.RowKit

/-- What stands behind the first k bytes. -/
theorem rd_from {w : World} {L : List Nat} {b o n cap k : Nat} {l : List UInt8} (h : RdV w L (.slice (some ⟨b, o, none⟩) n cap) l) (hk : k ≤ n) :
    RdV w L (.slice (some (if cap = k then ⟨b, o, none⟩ else (⟨b, o, none⟩ : Addr).add k)) (n - k) (cap - k)) (l.drop k) := by
  obtain ⟨A, c, hv, h1, h2, h3⟩ := h
  cases hv
  refine ⟨some (if cap = k then ⟨b, o, none⟩ else (⟨b, o, none⟩ : Addr).add k), cap - k, by simp, by simp; omega, by omega, fun h0 => ?_⟩
  simp at h0
  obtain ⟨b', o', hA, hb, hc⟩ := h3 (by omega)
  cases hA
  refine ⟨b, o + k, by rw [if_neg (by omega), Addr.add_mid], hb, fun i hi => ?_⟩
  simp at hi
  rw [Nat.add_assoc, hc (k + i) (by omega)]
  simp [bAt]
/-- The reader stands elsewhere. -/
theorem Rdr.put {w w' : World} {R : Nat} {v v' : Value} {e e' : Int} {l' : List UInt8} (h1 : w.rowIs R 47 2 (fun i => if i = 0 then v else .int .i64 e)) (hw : w.setCell ⟨R, 0, none⟩ v' = w') (hr : Rest w R v' l') (he : e = e') (hz : e' = 0) : Rdr w' R l' e' := by
  subst hw he
  refine ⟨v', (h1.set 0 v').congr fun i hi => ?_, hr.keep (by simp) (RT.setCell (R := R) w 0 v').keep, fun h => absurd hz h⟩
  by_cases h0 : i = 0
  · simp [h0]
  · simp [h0]
/-- What a number that is asked for turns a reader that isn't bad to. -/
def outN (l : List UInt8) : Nat × List UInt8 × Nat := if (goN l 0 0).2.2 = 0 then ((goN l 0 0).1, l.drop (goN l 0 0).2.1, 0) else (0, [], (goN l 0 0).2.2)
set_option maxHeartbeats 2000000 in
theorem takeN_good (R : Nat) (l : List UInt8) (w : World) (h : Rdr w R l 0) (hl : l.length ≤ 1000000) :
    Calls Try.prog 28 #[.pointer (some ⟨R, 0, none⟩), .func (.func 29) #[] #[]] w fun ev w' => ev = .returned (.int .i64 ((outN l).1 : Int)) ∧ RT R w w' ∧ Rdr w' R (outN l).2.1 ((outN l).2.2 : Int) := by
  have H := Lib.hid h
  have hR := h.lt
  clear h
  obtain ⟨g, hg⟩ : ∃ g, goN l 0 0 = g := ⟨_, rfl⟩
  have hb := goN_bounds l 0 0
  have her := goN_err l 0 0
  unfold outN
  rw [hg] at hb her ⊢
  obtain ⟨n, k, er⟩ := g
  simp only at hb her ⊢
  have Hb := Lib.hid hb
  have Her := Lib.hid her
  have Hg := Lib.hid hg
  clear hb her hg
  by_cases he : er = 0
  · subst he
    obtain ⟨hn, hk0, hkl⟩ := Hb.out rfl
    rw [if_pos rfl]
    clear Hb Her
    obtain ⟨v, r1, rs, _⟩ := H.out
    have r2 := rs.rd
    obtain ⟨A, cap, rfl, hc1, hc2, hA⟩ := id r2
    obtain ⟨b, o, rfl, _, _⟩ := hA (by omega)
    clear hA
    have hsl := slice_from (P := Try.prog) 22 5 Try.underlying22 info5s ⟨b, o, none⟩ l.length cap k (by omega)
    have hfr : Rest w R _ _ := fun L hL => rd_from (k := k) (rs L hL) (by omega)
    obtain ⟨ad, had⟩ : ∃ ad, (if cap = k then (⟨b, o, none⟩ : Addr) else (⟨b, o, none⟩ : Addr).add k) = ad := ⟨_, rfl⟩
    rw [had] at hsl hfr
    clear had
    go_enter Try.func28, Try.ntmps28
    go_wp2_with (first
      | (go_at_call 24; refine (Bad_any R l 0 w H.out).eq.mono ?_; rintro _ w1 ⟨rfl, hB1⟩; have r1' := NewT.row hB1 r1; have r2' := NewT.rd hB1 r2; have c0 := r1'.cell (i := 0) (by omega); simp only [if_true] at c0)
      | (go_at_call 29; refine (number_cv _ l [R] w1 r2' hl).eq.mono ?_; rintro _ w2 ⟨rfl, hB2⟩; rw [Hg.out]; simp only [numV]; have r3 := NewT.row hB2 r1'; have c2 := r3.cell (i := 0) (by omega); have f2 := r3.frozen 0; simp only [if_true] at c2))
    go_ret
    have hN := NewT.trans _ _ _ hB1 hB2
    exact ⟨rfl, RT.trans _ _ _ (RT.new hR hN) (RT.setCell _ 0 _), Rdr.put r3 rfl (hfr.new hN) rfl rfl⟩
  · rw [if_neg he]
    obtain ⟨hz, h23⟩ := Her.out he
    simp only [Prod.mk.injEq] at hz
    obtain ⟨rfl, rfl, _⟩ := hz
    obtain ⟨v, r1, rs, _⟩ := H.out
    have r2 := rs.rd
    have hbe : ((er : Int) != 0) = true := by simp; omega
    have hne : (er : Int) ≠ 0 := by omega
    have Hne := Lib.hid hne
    clear Hb Her he hne
    go_enter Try.func28, Try.ntmps28
    go_wp2_with (first
      | (go_at_call 24; refine (Bad_any R l 0 w H.out).eq.mono ?_; rintro _ w1 ⟨rfl, hB1⟩; have r1' := NewT.row hB1 r1; have r2' := NewT.rd hB1 r2; have c0 := r1'.cell (i := 0) (by omega); simp only [if_true] at c0)
      | (go_at_call 29; refine (number_cv _ l [R] w1 r2' hl).eq.mono ?_; rintro _ w2 ⟨rfl, hB2⟩; rw [Hg.out]; simp only [numV])
      | (go_at_call 25; refine (Fail_good R l er Hne.out w2 (H.out.new (NewT.trans _ _ _ hB1 hB2))).mono ?_; rintro _ w3 ⟨rfl, hT3, hR3⟩))
    go_ret
    exact ⟨rfl, RT.trans _ _ _ (RT.new hR (NewT.trans _ _ _ hB1 hB2)) hT3, hR3⟩
set_option maxHeartbeats 1000000 in
theorem takeN_bad (R : Nat) (l : List UInt8) (e : Int) (he : e ≠ 0) (w : World) (h : Rdr w R l e) :
    Calls Try.prog 28 #[.pointer (some ⟨R, 0, none⟩), .func (.func 29) #[] #[]] w fun ev w' => ev = .returned (.int .i64 0) ∧ RT R w w' ∧ Rdr w' R l e := by
  have H := Lib.hid h
  have hR := h.lt
  have hd : (e != 0) = true := by simpa using he
  clear h he
  go_enter Try.func28, Try.ntmps28
  go_wp2_with (go_at_call 24; refine (Bad_any R l e w H.out).eq.mono ?_; rintro _ w1 ⟨rfl, hB1⟩)
  go_ret
  exact ⟨rfl, RT.new hR hB1, H.out.new hB1⟩
set_option maxHeartbeats 400000 in
theorem RNum_good (R : Nat) (l : List UInt8) (w : World) (h : Rdr w R l 0) (hl : l.length ≤ 1000000) :
    Calls Try.prog 19 #[.pointer (some ⟨R, 0, none⟩)] w fun ev w' => ev = .returned (.int .i64 ((outN l).1 : Int)) ∧ RT R w w' ∧ Rdr w' R (outN l).2.1 ((outN l).2.2 : Int) := by
  have H := Lib.hid h
  clear h
  go_enter Try.func19, Try.ntmps19
  go_wp2_with (go_at_call 28; refine (takeN_good R l w H.out hl).mono ?_; rintro _ w1 ⟨rfl, hT, hr⟩)
  go_ret
  exact ⟨rfl, hT, hr⟩
set_option maxHeartbeats 400000 in
theorem RNum_bad (R : Nat) (l : List UInt8) (e : Int) (he : e ≠ 0) (w : World) (h : Rdr w R l e) :
    Calls Try.prog 19 #[.pointer (some ⟨R, 0, none⟩)] w fun ev w' => ev = .returned (.int .i64 0) ∧ RT R w w' ∧ Rdr w' R l e := by
  have H := Lib.hid h
  have He := Lib.hid he
  clear h he
  go_enter Try.func19, Try.ntmps19
  go_wp2_with (go_at_call 28; refine (takeN_bad R l e He.out w H.out).mono ?_; rintro _ w1 ⟨rfl, hT, hr⟩)
  go_ret
  exact ⟨rfl, hT, hr⟩
end Go.Proofs.Yteelddmegmojpaa
