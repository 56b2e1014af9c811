/- A reader: a block of two cells, what is left and the error; what its small calls answer. -/
import Derived.Test.YteelddmegmojpaaW1
namespace Go.Proofs.Yteelddmegmojpaa
open Go Go.RowKit

/-- A step that writes block R, and new memory, alone. -/
structure RT (R : Nat) (w w' : World) : Prop where
  below : Below R w w'
  keep : KeepBut [R] w w'
theorem RT.refl (R : Nat) (w : World) : RT R w w := ⟨Below.refl _ _, KeepBut.refl _ _⟩
theorem RT.trans {R : Nat} (a b c : World) (h : RT R a b) (k : RT R b c) : RT R a c := ⟨h.below.trans k.below, h.keep.trans k.keep⟩
theorem RT.new {R : Nat} {w w' : World} (hR : R < w.heap.size) (h : NewT w w') : RT R w w' := ⟨h.out.mono (by omega), KeepBut.below h⟩
theorem RT.drew (R : Nat) (w : World) : RT R w w.drew := ⟨(Below.refl _ _).drew, KeepBut.drew _⟩
theorem RT.setCell {R : Nat} (w : World) (o : Nat) (v : Value) : RT R w (w.setCell ⟨R, o, none⟩ v) := ⟨(Below.refl R w).setCell (p := ⟨R, o, none⟩) (Nat.le_refl R) v, KeepBut.setCell (by simp) v⟩
theorem RT.rd {R : Nat} {w w' : World} (h : RT R w w') {v : Value} {l : List UInt8} (hr : RdV w [R] v l) : RdV w' [R] v l := hr.keep h.keep
theorem RT.row {R : Nat} {w w' : World} (h : RT R w w') {b n : Nat} {t : TypeId} {f : Nat → Value} (hb : b ≠ R) (hr : w.rowIs b t n f) : w'.rowIs b t n f := h.keep.row (by simpa using hb) hr
theorem RT.size {R : Nat} {w w' : World} (h : RT R w w') : w.heap.size ≤ w'.heap.size := h.below.size
/-- It reads as l, in a block ahead of R. -/
def Rest (w : World) (R : Nat) (v : Value) (l : List UInt8) : Prop := ∀ L, (∀ k ∈ L, R ≤ k) → RdV w L v l
theorem Rest.rd {w : World} {R : Nat} {v : Value} {l : List UInt8} (h : Rest w R v l) : RdV w [R] v l := h [R] (by simp)
theorem Rest.new {w w' : World} {R : Nat} {v : Value} {l : List UInt8} (h : Rest w R v l) (hN : NewT w w') : Rest w' R v l := fun L hL => hN.rd (h L hL)
theorem Rest.keep {w w' : World} {R : Nat} {v : Value} {l : List UInt8} (h : Rest w R v l) {G : List Nat} (hG : ∀ k ∈ G, R ≤ k) (hK : KeepBut G w w') : Rest w' R v l := fun L hL => by
  have h1 := h (G ++ L) (fun k hk => by rcases List.mem_append.1 hk with hk | hk; exact hG k hk; exact hL k hk)
  obtain ⟨A, cap, hv, h1, h2, h3⟩ := h1.keep (hK.more fun k hk => List.mem_append.2 (.inl hk))
  refine ⟨A, cap, hv, h1, h2, fun h0 => ?_⟩
  obtain ⟨b, o, hA, hb, hc⟩ := h3 h0
  exact ⟨b, o, hA, fun hm => hb (List.mem_append.2 (.inr hm)), hc⟩
/-- Block R is a reader: l is left, its error is e. -/
def Rdr (w : World) (R : Nat) (l : List UInt8) (e : Int) : Prop :=
  ∃ v, w.rowIs R 47 2 (fun i => if i = 0 then v else .int .i64 e) ∧ Rest w R v l ∧ (e ≠ 0 → l = [])
theorem Rdr.new {w w' : World} {R : Nat} {l : List UInt8} {e : Int} (h : Rdr w R l e) (hN : NewT w w') : Rdr w' R l e := by
  obtain ⟨v, h1, h2, h3⟩ := h
  exact ⟨v, hN.row h1, h2.new hN, h3⟩
/-- Blocks behind R are written. -/
theorem Rdr.keep {w w' : World} {R : Nat} {l : List UInt8} {e : Int} (h : Rdr w R l e) {G : List Nat} (hG : ∀ k ∈ G, R < k) (hK : KeepBut G w w') : Rdr w' R l e := by
  obtain ⟨v, h1, h2, h3⟩ := h
  exact ⟨v, hK.row (fun hm => by have := hG _ hm; omega) h1, h2.keep (fun k hk => by have := hG k hk; omega) hK, h3⟩
theorem Rdr.lt {w : World} {R : Nat} {l : List UInt8} {e : Int} (h : Rdr w R l e) : R < w.heap.size := by
  obtain ⟨v, h1, _⟩ := h; exact h1.lt
theorem Rdr.drew {w : World} {R : Nat} {l : List UInt8} {e : Int} (h : Rdr w R l e) : Rdr w.drew R l e := h.new (NewT.drew w)

set_option maxHeartbeats 400000 in
theorem Bad_any (R : Nat) (l : List UInt8) (e : Int) (w : World) (h : Rdr w R l e) : Cv 24 #[.pointer (some ⟨R, 0, none⟩)] w (.eq (.int .i64 e)) := by
  obtain ⟨v, h1, h2, h3⟩ := h
  have c1 := h1.cell (i := 1) (by omega)
  unfold Cv
  go_enter Try.func24, Try.ntmps24
  go_wp2
  go_ret
  exact ⟨_, rfl, NewT.refl _, rfl⟩
set_option maxHeartbeats 400000 in
theorem Left_any (R : Nat) (l : List UInt8) (e : Int) (w : World) (h : Rdr w R l e) : Cv 23 #[.pointer (some ⟨R, 0, none⟩)] w (.eq (.int .i64 (l.length : Int))) := by
  obtain ⟨v, h1, h2, h3⟩ := h
  have c0 := h1.cell (i := 0) (by omega)
  obtain ⟨A, c, rfl, _⟩ := h2.rd
  unfold Cv
  go_enter Try.func23, Try.ntmps23
  go_wp2
  go_ret
  exact ⟨_, rfl, NewT.refl _, rfl⟩
theorem NewT.of_eq {w w' : World} (h : w = w') : NewT w w' := h ▸ NewT.refl w
set_option maxHeartbeats 400000 in
theorem Done_any (R : Nat) (l : List UInt8) (e : Int) (w : World) (h : Rdr w R l e) : Cv 26 #[.pointer (some ⟨R, 0, none⟩)] w (.eq (.int .i64 (if 0 < l.length then 2 else e))) := by
  have H := Lib.hid h
  clear h
  unfold Cv
  by_cases hl : 0 < l.length
  · have i0 : (0 : Int) < (l.length : Int) := by omega
    go_enter Try.func26, Try.ntmps26
    go_wp2_with (go_at_call 23; refine (Left_any R l e w H.out).eq.mono ?_; rintro _ w' ⟨rfl, hB⟩)
    go_ret
    exact ⟨_, rfl, hB, rfl⟩
  · have i0 : ¬ (0 : Int) < (l.length : Int) := by omega
    go_enter Try.func26, Try.ntmps26
    go_wp2_with (first
      | (go_at_call 23; refine (Left_any R l e w H.out).eq.mono ?_; rintro _ w' ⟨rfl, hB⟩)
      | (go_at_call 24; refine (Bad_any R l e w' (H.out.new hB)).eq.mono ?_; rintro _ w2 ⟨rfl, hB2⟩))
    go_ret
    exact ⟨_, rfl, NewT.trans _ _ _ hB hB2, rfl⟩
set_option maxHeartbeats 400000 in
/-- A reader that isn't bad is made so. -/
theorem Fail_good (R : Nat) (l : List UInt8) (x : Int) (hx : x ≠ 0) (w : World) (h : Rdr w R l 0) : Calls Try.prog 25 #[.pointer (some ⟨R, 0, none⟩), .int .i64 x] w fun e w' => e = .returned (.tuple #[]) ∧ RT R w w' ∧ Rdr w' R [] x := by
  have H := Lib.hid h
  clear h
  have hd : (x != 0) = true := by simpa using hx
  go_enter Try.func25, Try.ntmps25
  go_wp2_with (go_at_call 24; refine (Bad_any R l 0 w H.out).eq.mono ?_; rintro _ w' ⟨rfl, hB⟩; obtain ⟨v, h1, h2, h3⟩ := H.out.new hB; have f0 := h1.frozen 0; have f1 := h1.frozen 1; have c0 := h1.cell (i := 0) (by omega); have c1 := h1.cell (i := 1) (by omega); simp only [if_true, if_false, Nat.one_ne_zero] at c0 c1)
  go_end0
  have hR : R < w.heap.size := H.out.lt
  refine ⟨rfl, RT.trans _ _ _ (RT.new hR hB) (RT.trans _ _ _ (RT.setCell w' 0 _) (RT.setCell _ 1 _)), .slice none 0 0, ?_, fun _ _ => rdV_nil _ _, fun _ => rfl⟩
  exact ((h1.set 0 _).set 1 _).congr fun i hi => by
    have : i = 0 ∨ i = 1 := by omega
    rcases this with rfl | rfl <;> simp
/-- A reader that is bad is left as it is. -/
theorem Fail_bad (R : Nat) (l : List UInt8) (e x : Int) (he : e ≠ 0) (w : World) (h : Rdr w R l e) : Calls Try.prog 25 #[.pointer (some ⟨R, 0, none⟩), .int .i64 x] w fun e' w' => e' = .returned (.tuple #[]) ∧ RT R w w' ∧ Rdr w' R l e := by
  have H := Lib.hid h
  have hR : R < w.heap.size := h.lt
  clear h
  have hd2 : (e == 0) = false := by simpa using he
  by_cases hx : x = 0
  · subst hx
    go_enter Try.func25, Try.ntmps25
    go_wp2
    go_end0
    exact ⟨rfl, RT.refl _ _, H.out⟩
  · have hd : (x != 0) = true := by simpa using hx
    go_enter Try.func25, Try.ntmps25
    go_wp2_with (go_at_call 24; refine (Bad_any R l e w H.out).eq.mono ?_; rintro _ w' ⟨rfl, hB⟩)
    go_end0
    exact ⟨rfl, RT.new hR hB, H.out.new hB⟩
end Go.Proofs.Yteelddmegmojpaa
