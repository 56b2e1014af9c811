import Derived.Test.YtpoebajpmkcjdaaDoorC1
import Derived.KernelRfl
namespace Go.Proofs.YtpoebajpmkcjdaaDoor
def kTab : List Nat := [1116352408, 1899447441, 3049323471, 3921009573, 961987163, 1508970993, 2453635748, 2870763221, 3624381080, 310598401, 607225278, 1426881987, 1925078388, 2162078206, 2614888103, 3248222580, 3835390401, 4022224774, 264347078, 604807628, 770255983, 1249150122, 1555081692, 1996064986, 2554220882, 2821834349, 2952996808, 3210313671, 3336571891, 3584528711, 113926993, 338241895, 666307205, 773529912, 1294757372, 1396182291, 1695183700, 1986661051, 2177026350, 2456956037, 2730485921, 2820302411, 3259730800, 3345764771, 3516065817, 3600352804, 4094571909, 275423344, 430227734, 506948616, 659060556, 883997877, 958139571, 1322822218, 1537002063, 1747873779, 1955562222, 2024104815, 2227730452, 2361852424, 2428436474, 2756734187, 3204031479, 3329325298]
def fTab : List Nat := [1779033703, 3144134277, 1013904242, 2773480762, 1359893119, 2600822924, 528734635, 1541459225]
def Kc (i : Nat) : BitVec 32 := BitVec.ofNat 32 (kTab.getD i 0)
def Fc (i : Nat) : BitVec 32 := BitVec.ofNat 32 (fTab.getD i 0)
theorem abc_hex : hexL (shaL Kc Fc [97, 98, 99]) 32 = [98, 97, 55, 56, 49, 54, 98, 102, 56, 102, 48, 49, 99, 102, 101, 97, 52, 49, 52, 49, 52, 48, 100, 101, 53, 100, 97, 101, 50, 50, 50, 51, 98, 48, 48, 51, 54, 49, 97, 51, 57, 54, 49, 55, 55, 97, 57, 99, 98, 52, 49, 48, 102, 102, 54, 49, 102, 50, 48, 48, 49, 53, 97, 100] := by decide +kernel
theorem none_hex : hexL (shaL Kc Fc []) 32 = [101, 51, 98, 48, 99, 52, 52, 50, 57, 56, 102, 99, 49, 99, 49, 52, 57, 97, 102, 98, 102, 52, 99, 56, 57, 57, 54, 102, 98, 57, 50, 52, 50, 55, 97, 101, 52, 49, 101, 52, 54, 52, 57, 98, 57, 51, 52, 99, 97, 52, 57, 53, 57, 57, 49, 98, 55, 56, 53, 50, 98, 56, 53, 53] := by decide +kernel
open Go.RowKit
/-- The two tables lie as the program's text lays them. -/
structure Tables (w : World) : Prop where
  size : 1 < w.heap.size
  k : ∀ i, i < 64 → w.cell? ⟨1, i, none⟩ = some (.int .u32 (uN (Kc i)))
  f : ∀ i, i < 8 → w.cell? ⟨0, i, none⟩ = some (.int .u32 (uN (Fc i)))
theorem Tables.below {w w' : World} (h : Tables w) (hb : Below w.heap.size w w') : Tables w' :=
  ⟨by have := h.size; have := hb.size; omega, fun i hi => (hb.cell (p := ⟨1, i, none⟩) h.size).trans (h.k i hi), fun i hi => (hb.cell (p := ⟨0, i, none⟩) (by have := h.size; show 0 < _; omega)).trans (h.f i hi)⟩
theorem Sum_c (pv : Value) (ps : List (Value × List UInt8)) (w : World) (hT : Tables w) (hps : PartsAt w [] pv ps) (ht : total ps ≤ 4611686018427387904) :
    Calls Tryd.prog 21 #[pv] w fun e w' => e = .returned (.agg (rowA 32 (bF (shaL Kc Fc (flat ps))))) ∧ Below w.heap.size w w' :=
  Sum_any Kc Fc pv ps w hT.size hT.k hT.f hps ht
theorem modify_push (a : Array Obj) (x : Obj) (f : Obj → Obj) : (a.push x).modify a.size f = a.push (f x) := by
  apply Array.ext
  · simp
  · intro i h1 h2
    simp only [Array.getElem_modify, Array.getElem_push]
    by_cases h : a.size = i
    · subst h; simp
    · have hi : i < a.size := by simp at h1; omega
      simp [h, hi]
/-- '[]byte("..")' of a text that is known, as the model has it: its row is marked behind its end. -/
theorem conv_bytes (W : World) (C : Array Value) (g n c : Nat) (h : W.heap.size = g) : (convert 24 24 (.slice (some ⟨g, 0, none⟩) n c)).run Tryd.prog (W.alloc (.cells C 5)) = .ok (.slice (some ⟨g, 0, none⟩) n c) (W.alloc (.cells C 5 (C.size, C.size + 1))) := by
  subst h
  have hsh : (W.alloc (.cells C 5)).shape? W.heap.size = some (5, C.size) := by
    unfold World.shape?; rw [World.alloc_heap_new]
  have hfr : (W.alloc (.cells C 5)).freeze ⟨W.heap.size, C.size, none⟩ 1 = W.alloc (.cells C 5 (C.size, C.size + 1)) := by
    unfold World.freeze
    rw [if_neg (by decide)]
    show ({ W.alloc (.cells C 5) with heap := (W.heap.push (.cells C 5)).modify W.heap.size _ } : World) = _
    rw [modify_push]
    rfl
  simp [convert, run_underlying Tryd.underlying24, run_underlying Tryd.underlying5, markStringish, hsh, hfr]
theorem cell_new_fr (W : World) (C : Array Value) (t : TypeId) (fr : Nat × Nat) (g i : Nat) (h : g = W.heap.size) : (W.alloc (.cells C t fr)).cell? ⟨g, i, none⟩ = C[i]? := by
  subst h
  unfold World.cell?
  rw [World.alloc_heap_new W (.cells C t fr)]
  rfl
attribute [local go_sem] conv_bytes
theorem str_eq {a b : ByteArray} (h : a = b) (w : World) : (binOp .eql 9 (.string a) (.string b)).run Tryd.prog w = .ok (.bool true) w := by
  subst h; simp [go_sem]
theorem abc_eq (w : World) : (binOp .eql 9 (.string ⟨(hexL (shaL Kc Fc [97, 98, 99]) 32).toArray⟩) (.string { data := #[98, 97, 55, 56, 49, 54, 98, 102, 56, 102, 48, 49, 99, 102, 101, 97, 52, 49, 52, 49, 52, 48, 100, 101, 53, 100, 97, 101, 50, 50, 50, 51, 98, 48, 48, 51, 54, 49, 97, 51, 57, 54, 49, 55, 55, 97, 57, 99, 98, 52, 49, 48, 102, 102, 54, 49, 102, 50, 48, 48, 49, 53, 97, 100] })).run Tryd.prog w = .ok (.bool true) w :=
  str_eq (by rw [abc_hex]) w
theorem none_eq (w : World) : (binOp .eql 9 (.string ⟨(hexL (shaL Kc Fc []) 32).toArray⟩) (.string { data := #[101, 51, 98, 48, 99, 52, 52, 50, 57, 56, 102, 99, 49, 99, 49, 52, 57, 97, 102, 98, 102, 52, 99, 56, 57, 57, 54, 102, 98, 57, 50, 52, 50, 55, 97, 101, 52, 49, 101, 52, 54, 52, 57, 98, 57, 51, 52, 99, 97, 52, 57, 53, 57, 57, 49, 98, 55, 56, 53, 50, 98, 56, 53, 53] })).run Tryd.prog w = .ok (.bool true) w :=
  str_eq (by rw [none_hex]) w
theorem rdV_lit {W : World} {g : Nat} {l : List UInt8} {cap : Nat} (hc : l.length ≤ cap) (hm : cap ≤ maxLen) (h : ∀ i, i < l.length → W.cell? ⟨g, i, none⟩ = some (.int .u8 (bN (bAt l i)))) : RdV W [] (.slice (some ⟨g, 0, none⟩) l.length cap) l :=
  ⟨some ⟨g, 0, none⟩, cap, rfl, hc, hm, fun _ => ⟨g, 0, rfl, by simp, fun i hi => by rw [Nat.zero_add]; exact h i hi⟩⟩
theorem Fill_0 (w : World) : Calls Tryd.prog 19 #[.int .i64 0] w fun e w' => ∃ g c, e = .returned (.slice (some ⟨g, 0, none⟩) 64 c) ∧ Below w.heap.size w w' :=
  (Fill_any 0 (by omega) w).mono fun e w' h => by
    obtain ⟨v, rfl, ho, hb⟩ := h
    obtain ⟨g, c, rfl, _, _⟩ := ho.form (by decide)
    exact ⟨g, c, rfl, hb⟩
theorem Fill_56 (w : World) : Calls Tryd.prog 19 #[.int .i64 56] w fun e w' => ∃ g c, e = .returned (.slice (some ⟨g, 0, none⟩) 72 c) ∧ Below w.heap.size w w' :=
  (Fill_any 56 (by omega) w).mono fun e w' h => by
    obtain ⟨v, rfl, ho, hb⟩ := h
    obtain ⟨g, c, rfl, _, _⟩ := ho.form (by decide)
    exact ⟨g, c, rfl, hb⟩
set_option maxHeartbeats 2000000 in
theorem alive_any (w : World) (hT : Tables w) : Calls Tryd.prog 15 #[] w fun e w' => e = .returned (.bool true) ∧ Below w.heap.size w w' := by
  have HT := Lib.hid hT
  clear hT
  obtain ⟨d1, Hd1⟩ : ∃ d, Hid (shaL Kc Fc [97, 98, 99] = d) := ⟨_, Lib.hid rfl⟩
  obtain ⟨d2, Hd2⟩ : ∃ d, Hid (shaL Kc Fc [] = d) := ⟨_, Lib.hid rfl⟩
  obtain ⟨S1, HS1⟩ : ∃ S : ByteArray, Hid (⟨(hexL d1 32).toArray⟩ = S) := ⟨_, Lib.hid rfl⟩
  obtain ⟨S2, HS2⟩ : ∃ S : ByteArray, Hid (⟨(hexL d2 32).toArray⟩ = S) := ⟨_, Lib.hid rfl⟩
  have ha := abc_eq
  rw [Hd1.out, HS1.out] at ha
  have hn := none_eq
  rw [Hd2.out, HS2.out] at hn
  have ha2 : (S1.toList == [98, 97, 55, 56, 49, 54, 98, 102, 56, 102, 48, 49, 99, 102, 101, 97, 52, 49, 52, 49, 52, 48, 100, 101, 53, 100, 97, 101, 50, 50, 50, 51, 98, 48, 48, 51, 54, 49, 97, 51, 57, 54, 49, 55, 55, 97, 57, 99, 98, 52, 49, 48, 102, 102, 54, 49, 102, 50, 48, 48, 49, 53, 97, 100]) = true := by rw [← HS1.out, ← Hd1.out, abc_hex]; decide +kernel
  have hn2 : (S2.toList == [101, 51, 98, 48, 99, 52, 52, 50, 57, 56, 102, 99, 49, 99, 49, 52, 57, 97, 102, 98, 102, 52, 99, 56, 57, 57, 54, 102, 98, 57, 50, 52, 50, 55, 97, 101, 52, 49, 101, 52, 54, 52, 57, 98, 57, 51, 52, 99, 97, 52, 57, 53, 57, 57, 49, 98, 55, 56, 53, 50, 98, 56, 53, 53]) = true := by rw [← HS2.out, ← Hd2.out, none_hex]; decide +kernel
  go_enter Tryd.func15, Tryd.ntmps15
  go_wp2_with fail
  have hB1 : Below w.heap.size w (((w.alloc (.cells #[.int .u8 97] 5 (1, 1 + 1))).alloc (.cells #[.int .u8 98, .int .u8 99] 5 (2, 2 + 1))).alloc (.cells #[.slice (some ⟨w.heap.size, 0, none⟩) 1 1, .slice (some ⟨w.heap.size + 1, 0, none⟩) 2 2] 24)) :=
    (((Below.refl _ w).alloc (Nat.le_refl _) _).alloc (by simp) _).alloc (by simp; omega) _
  have hp1 : PartsAt (((w.alloc (.cells #[.int .u8 97] 5 (1, 1 + 1))).alloc (.cells #[.int .u8 98, .int .u8 99] 5 (2, 2 + 1))).alloc (.cells #[.slice (some ⟨w.heap.size, 0, none⟩) 1 1, .slice (some ⟨w.heap.size + 1, 0, none⟩) 2 2] 24)) [] (.slice (some ⟨w.heap.size + 1 + 1, 0, none⟩) 2 2)
      [(.slice (some ⟨w.heap.size, 0, none⟩) 1 1, [97]), (.slice (some ⟨w.heap.size + 1, 0, none⟩) 2 2, [98, 99])] := by
    refine ⟨_, 2, rfl, by simp, by decide, fun _ => ⟨w.heap.size + 1 + 1, 0, rfl, by simp, ?_⟩, ?_⟩
    · intro i x hx
      match i, hx with
      | 0, hx => simp at hx; subst hx; rw [cell_new_fr _ _ _ _ _ _ (by simp)]; rfl
      | 1, hx => simp at hx; subst hx; rw [cell_new_fr _ _ _ _ _ _ (by simp)]; rfl
    · intro x hx
      simp at hx
      rcases hx with rfl | rfl
      · refine rdV_lit (l := [97]) (by simp) (by decide) fun i hi => ?_
        obtain rfl : i = 0 := by simpa using hi
        rw [World.cell?_alloc_past _ _ _ (by simp; omega), World.cell?_alloc_past _ _ _ (by simp), cell_new_fr _ _ _ _ _ _ rfl]; rfl
      · refine rdV_lit (l := [98, 99]) (by simp) (by decide) fun i hi => ?_
        have : i = 0 ∨ i = 1 := by simp at hi; omega
        rw [World.cell?_alloc_past _ _ _ (by simp), cell_new_fr _ _ _ _ _ _ (by simp)]
        rcases this with rfl | rfl <;> rfl
  refine (Sum_c _ _ _ (HT.out.below hB1) hp1 (by simp [total])).mono ?_
  rintro e w1 ⟨rfl, hb1⟩
  replace hB1 := hB1.trans (hb1.mono hB1.size)
  clear hb1 hp1
  rw [show flat [(Value.slice (some ⟨w.heap.size, 0, none⟩) 1 1, [97]), (Value.slice (some ⟨w.heap.size + 1, 0, none⟩) 2 2, [98, 99])] = [97, 98, 99] from rfl, Hd1.out]
  go_wp2_with fail
  refine (Hex_any _ _).mono ?_
  rintro e w2 ⟨rfl, hb2⟩
  rw [HS1.out]
  replace hB1 := hB1.trans (hb2.mono hB1.size)
  clear hb2
  go_wp2_with fail
  refine (Sum_c _ [] _ (HT.out.below hB1) ⟨_, 0, rfl, by simp, by decide, fun h => by simp at h, fun x hx => by simp at hx⟩ (by simp [total])).mono ?_
  rintro e w3 ⟨rfl, hb3⟩
  replace hB1 := hB1.trans (hb3.mono hB1.size)
  clear hb3
  rw [show flat [] = [] from rfl, Hd2.out]
  go_wp2_with fail
  refine (Hex_any _ _).mono ?_
  rintro e w4 ⟨rfl, hb4⟩
  rw [HS2.out]
  replace hB1 := hB1.trans (hb4.mono hB1.size)
  clear hb4
  go_wp2_with fail
  refine (Fill_0 _).mono ?_
  rintro e w5 ⟨g5, c5, rfl, hb5⟩
  replace hB1 := hB1.trans (hb5.mono hB1.size)
  clear hb5
  go_wp2_with fail
  refine (Fill_56 _).mono ?_
  rintro e w6 ⟨g6, c6, rfl, hb6⟩
  replace hB1 := hB1.trans (hb6.mono hB1.size)
  clear hb6
  go_wp2_with fail
  go_ret
  exact ⟨rfl, hB1⟩
end Go.Proofs.YtpoebajpmkcjdaaDoor
