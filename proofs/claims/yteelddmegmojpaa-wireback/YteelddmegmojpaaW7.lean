/- A reader reads a flag: take[bool], Flag. -/
import Derived.Test.YteelddmegmojpaaW6
namespace Go.Proofs.Yteelddmegmojpaa
open Go Go.RowKit

/-- Bytes read as a flag: it, how many bytes it has, the error. -/
def goF : List UInt8 → Bool × Nat × Nat
  | [] => (false, 0, 3)
  | c :: _ => if 1 < c.toNat then (false, 0, 2) else (c.toNat == 1, 1, 0)
theorem goF_bounds (l : List UInt8) : (goF l).2.2 = 0 → (goF l).2.1 = 1 ∧ 1 ≤ l.length := by
  cases l with
  | nil => simp [goF]
  | cons c r => rw [goF]; split <;> simp
theorem goF_err (l : List UInt8) : (goF l).2.2 ≠ 0 → goF l = (false, 0, (goF l).2.2) ∧ ((goF l).2.2 = 2 ∨ (goF l).2.2 = 3) := by
  cases l with
  | nil => simp [goF]
  | cons c r => rw [goF]; split <;> simp
def flagV (r : Bool × Nat × Nat) : Value := .tuple #[.bool r.1, .int .i64 (r.2.1 : Int), .int .i64 (r.2.2 : Int)]
set_option maxHeartbeats 1000000 in
theorem flag1_cv (v : Value) (l : List UInt8) (L : List Nat) (w : World) (h : RdV w L v l) : Cv 31 #[v] w (.eq (flagV (goF l))) := by
  unfold Cv
  obtain ⟨A, cap, rfl, h1, h2, h3⟩ := h
  unfold maxLen at h2
  cases l with
  | nil =>
    clear h3
    go_enter Try.func31, Try.ntmps31
    go_wp2
    go_ret3
    exact ⟨_, rfl, NewT.refl _, rfl⟩
  | cons c r =>
    obtain ⟨b, o, rfl, _, hc⟩ := h3 (by simp)
    have c0 := hc 0 (by simp)
    rw [show bAt (c :: r) 0 = c from rfl, Nat.add_zero] at c0
    clear hc h3
    have hbc : bN c = (c.toNat : Int) := rfl
    rw [hbc] at c0
    have Hres : Hid (goF (c :: r) = if 1 < c.toNat then (false, 0, 2) else (c.toNat == 1, 1, 0)) := Lib.hid rfl
    have ht := c.toNat_lt
    generalize hm : c.toNat = m at *
    have Hm := Lib.hid hm
    clear hm hbc
    obtain ⟨n, hn⟩ : ∃ n, (c :: r).length = n := ⟨_, rfl⟩
    have hn1 : 1 ≤ n := by rw [← hn]; simp
    rw [hn] at h1 ⊢
    clear hn
    have q0 : ((n : Int) == 0) = false := by simp; omega
    by_cases h1m : 1 < m
    · rw [if_pos h1m] at Hres
      go_enter Try.func31, Try.ntmps31
      go_wp2
      go_ret3
      exact ⟨_, rfl, NewT.refl _, by rw [Hres.out]; rfl⟩
    · rw [if_neg h1m] at Hres
      by_cases hm1 : m = 1
      · have q1 : ((m : Int) == 1) = true := by simp; omega
        have Hm1 := Lib.hid hm1
        clear hm1
        go_enter Try.func31, Try.ntmps31
        go_wp2
        go_ret3
        exact ⟨_, rfl, NewT.refl _, by rw [Hres.out, Hm1.out]; rfl⟩
      · have q1 : ((m : Int) == 1) = false := by simp; omega
        have Hm1 : Hid ((m == 1) = false) := Lib.hid (by simpa using hm1)
        clear hm1
        go_enter Try.func31, Try.ntmps31
        go_wp2
        go_ret3
        exact ⟨_, rfl, NewT.refl _, by rw [Hres.out, Hm1.out]; rfl⟩
/-- What a flag that is asked for turns a reader that isn't bad to. -/
def outF (l : List UInt8) : Bool × List UInt8 × Nat := if (goF l).2.2 = 0 then ((goF l).1, l.drop (goF l).2.1, 0) else (false, [], (goF l).2.2)
set_option maxHeartbeats 2000000 in
theorem takeF_good (R : Nat) (l : List UInt8) (w : World) (h : Rdr w R l 0) (hl : l.length ≤ 1000000) :
    Calls Try.prog 30 #[.pointer (some ⟨R, 0, none⟩), .func (.func 31) #[] #[]] w fun ev w' => ev = .returned (.bool (outF l).1) ∧ RT R w w' ∧ Rdr w' R (outF l).2.1 ((outF l).2.2 : Int) := by
  have H := Lib.hid h
  have hR := h.lt
  clear h
  obtain ⟨g, hg⟩ : ∃ g, goF l = g := ⟨_, rfl⟩
  have hb := goF_bounds l
  have her := goF_err l
  unfold outF
  rw [hg] at hb her ⊢
  obtain ⟨n, k, er⟩ := g
  simp only at hb her ⊢
  have Hb := Lib.hid hb
  have Her := Lib.hid her
  have Hg := Lib.hid hg
  clear hb her hg
  by_cases he : er = 0
  · subst he
    obtain ⟨hk1, hl1⟩ := Hb.out rfl
    have hkl : k ≤ l.length := by omega
    clear hk1
    rw [if_pos rfl]
    clear Hb Her
    obtain ⟨v, r1, rs, _⟩ := H.out
    have r2 := rs.rd
    obtain ⟨A, cap, rfl, hc1, hc2, hA⟩ := id r2
    obtain ⟨b, o, rfl, _, _⟩ := hA (by omega)
    clear hA
    have hsl := slice_from (P := Try.prog) 22 5 Try.underlying22 info5s ⟨b, o, none⟩ l.length cap k (by omega)
    have hfr : Rest w R _ _ := fun L hL => rd_from (k := k) (rs L hL) (by omega)
    obtain ⟨ad, had⟩ : ∃ ad, (if cap = k then (⟨b, o, none⟩ : Addr) else (⟨b, o, none⟩ : Addr).add k) = ad := ⟨_, rfl⟩
    rw [had] at hsl hfr
    clear had
    go_enter Try.func30, Try.ntmps30
    go_wp2_with (first
      | (go_at_call 24; refine (Bad_any R l 0 w H.out).eq.mono ?_; rintro _ w1 ⟨rfl, hB1⟩; have r1' := NewT.row hB1 r1; have r2' := NewT.rd hB1 r2; have c0 := r1'.cell (i := 0) (by omega); simp only [if_true] at c0)
      | (go_at_call 31; refine (flag1_cv _ l [R] w1 r2').eq.mono ?_; rintro _ w2 ⟨rfl, hB2⟩; rw [Hg.out]; simp only [flagV]; have r3 := NewT.row hB2 r1'; have c2 := r3.cell (i := 0) (by omega); have f2 := r3.frozen 0; simp only [if_true] at c2))
    go_ret
    have hN := NewT.trans _ _ _ hB1 hB2
    exact ⟨rfl, RT.trans _ _ _ (RT.new hR hN) (RT.setCell _ 0 _), Rdr.put r3 rfl (hfr.new hN) rfl rfl⟩
  · rw [if_neg he]
    obtain ⟨hz, h23⟩ := Her.out he
    simp only [Prod.mk.injEq] at hz
    obtain ⟨rfl, rfl, _⟩ := hz
    obtain ⟨v, r1, rs, _⟩ := H.out
    have r2 := rs.rd
    have hbe : ((er : Int) != 0) = true := by simp; omega
    have hne : (er : Int) ≠ 0 := by omega
    have Hne := Lib.hid hne
    clear Hb Her he hne
    go_enter Try.func30, Try.ntmps30
    go_wp2_with (first
      | (go_at_call 24; refine (Bad_any R l 0 w H.out).eq.mono ?_; rintro _ w1 ⟨rfl, hB1⟩; have r1' := NewT.row hB1 r1; have r2' := NewT.rd hB1 r2; have c0 := r1'.cell (i := 0) (by omega); simp only [if_true] at c0)
      | (go_at_call 31; refine (flag1_cv _ l [R] w1 r2').eq.mono ?_; rintro _ w2 ⟨rfl, hB2⟩; rw [Hg.out]; simp only [flagV])
      | (go_at_call 25; refine (Fail_good R l er Hne.out w2 (H.out.new (NewT.trans _ _ _ hB1 hB2))).mono ?_; rintro _ w3 ⟨rfl, hT3, hR3⟩))
    go_ret
    exact ⟨rfl, RT.trans _ _ _ (RT.new hR (NewT.trans _ _ _ hB1 hB2)) hT3, hR3⟩
set_option maxHeartbeats 1000000 in
theorem takeF_bad (R : Nat) (l : List UInt8) (e : Int) (he : e ≠ 0) (w : World) (h : Rdr w R l e) :
    Calls Try.prog 30 #[.pointer (some ⟨R, 0, none⟩), .func (.func 31) #[] #[]] w fun ev w' => ev = .returned (.bool false) ∧ RT R w w' ∧ Rdr w' R l e := by
  have H := Lib.hid h
  have hR := h.lt
  have hd : (e != 0) = true := by simpa using he
  clear h he
  go_enter Try.func30, Try.ntmps30
  go_wp2_with (go_at_call 24; refine (Bad_any R l e w H.out).eq.mono ?_; rintro _ w1 ⟨rfl, hB1⟩)
  go_ret
  exact ⟨rfl, RT.new hR hB1, H.out.new hB1⟩
set_option maxHeartbeats 400000 in
theorem RFlag_good (R : Nat) (l : List UInt8) (w : World) (h : Rdr w R l 0) (hl : l.length ≤ 1000000) :
    Calls Try.prog 20 #[.pointer (some ⟨R, 0, none⟩)] w fun ev w' => ev = .returned (.bool (outF l).1) ∧ RT R w w' ∧ Rdr w' R (outF l).2.1 ((outF l).2.2 : Int) := by
  have H := Lib.hid h
  clear h
  go_enter Try.func20, Try.ntmps20
  go_wp2_with (go_at_call 30; refine (takeF_good R l w H.out hl).mono ?_; rintro _ w1 ⟨rfl, hT, hr⟩)
  go_ret
  exact ⟨rfl, hT, hr⟩
set_option maxHeartbeats 400000 in
theorem RFlag_bad (R : Nat) (l : List UInt8) (e : Int) (he : e ≠ 0) (w : World) (h : Rdr w R l e) :
    Calls Try.prog 20 #[.pointer (some ⟨R, 0, none⟩)] w fun ev w' => ev = .returned (.bool false) ∧ RT R w w' ∧ Rdr w' R l e := by
  have H := Lib.hid h
  have He := Lib.hid he
  clear h he
  go_enter Try.func20, Try.ntmps20
  go_wp2_with (go_at_call 30; refine (takeF_bad R l e He.out w H.out).mono ?_; rintro _ w1 ⟨rfl, hT, hr⟩)
  go_ret
  exact ⟨rfl, hT, hr⟩
end Go.Proofs.Yteelddmegmojpaa
