import Derived.Test.YtpoebajpmkcjdaaDoorA6
import Derived.Test.YtpoebajpmkcjdaaDoorRng
import Derived.Deep.AppendLies
namespace Go.Proofs.YtpoebajpmkcjdaaDoor
open Go.RowKit Go.Shelf
attribute [local go_sem] Oper.semAt_some

/-- A slice of bytes reads as l, outside the blocks of L. -/
def RdV (W : World) (L : List Nat) (v : Value) (l : List UInt8) : Prop :=
  ∃ A cap, v = .slice A l.length cap ∧ l.length ≤ cap ∧ cap ≤ maxLen ∧
    (0 < l.length → ∃ b o, A = some ⟨b, o, none⟩ ∧ b ∉ L ∧ ∀ i, i < l.length → W.cell? ⟨b, o + i, none⟩ = some (.int .u8 (bN (bAt l i))))
theorem RdV.keep {W W' : World} {L : List Nat} {v : Value} {l : List UInt8} (h : RdV W L v l) (hk : KeepBut L W W') : RdV W' L v l := by
  obtain ⟨A, cap, hv, h1, h2, h3⟩ := h
  refine ⟨A, cap, hv, h1, h2, fun h0 => ?_⟩
  obtain ⟨b, o, hA, hb, hc⟩ := h3 h0
  exact ⟨b, o, hA, hb, fun i hi => hk.cell hb (hc i hi)⟩
/-- A slice of slices of bytes. -/
def PartsAt (W : World) (L : List Nat) (v : Value) (ps : List (Value × List UInt8)) : Prop :=
  ∃ A cap, v = .slice A ps.length cap ∧ ps.length ≤ cap ∧ cap ≤ maxLen ∧
    (0 < ps.length → ∃ b o, A = some ⟨b, o, none⟩ ∧ b ∉ L ∧ ∀ i x, ps[i]? = some x → W.cell? ⟨b, o + i, none⟩ = some x.1) ∧ ∀ x ∈ ps, RdV W L x.1 x.2
theorem PartsAt.keep {W W' : World} {L : List Nat} {v : Value} {ps : List (Value × List UInt8)} (h : PartsAt W L v ps) (hk : KeepBut L W W') : PartsAt W' L v ps := by
  obtain ⟨A, cap, hv, h1, h2, h3, h4⟩ := h
  refine ⟨A, cap, hv, h1, h2, fun h0 => ?_, fun x hx => (h4 x hx).keep hk⟩
  obtain ⟨b, o, hA, hb, hc⟩ := h3 h0
  exact ⟨b, o, hA, hb, fun i x hx => hk.cell hb (hc i x hx)⟩
/-- How many bytes there are together. -/
def total (ps : List (Value × List UInt8)) : Nat := (ps.map fun x => x.2.length).sum
theorem total_snoc (ps : List (Value × List UInt8)) (x : Value × List UInt8) : total (ps ++ [x]) = total ps + x.2.length := by simp [total]
theorem total_take (ps : List (Value × List UInt8)) (k : Nat) : total (ps.take k) ≤ total ps := by
  have h := congrArg total (List.take_append_drop k ps)
  have e : total (ps.take k ++ ps.drop k) = total (ps.take k) + total (ps.drop k) := by
    unfold total; rw [List.map_append, List.sum_append]
  omega
/-- What fills up n bytes. -/
def fillB (n : Nat) : List UInt8 := (List.range (if n % 64 < 56 then 56 - n % 64 else 120 - n % 64)).map fillHead ++ (List.range 8).map (lenByte n)
theorem fillB_length (n : Nat) : (fillB n).length = (if n % 64 < 56 then 56 - n % 64 else 120 - n % 64) + 8 := by simp [fillB]
theorem rdV_fill {w w' : World} {n : Nat} {v : Value} {L : List Nat} (hL : ∀ k ∈ L, k < w.heap.size)
    (h : w'.ownsRow w.heap.size 5 1 v ((if n % 64 < 56 then 56 - n % 64 else 120 - n % 64) + 8) ((List.range (if n % 64 < 56 then 56 - n % 64 else 120 - n % 64)).map (bF fillHead) ++ (List.range 8).map (bF (lenByte n)))) : RdV w' L v (fillB n) := by
  rcases h.2 with ⟨_, h0⟩ | ⟨g, cap, cur, rfl, hb, _, hnc, hcm, _, _⟩
  · omega
  · refine ⟨some ⟨g, 0, none⟩, cap, by rw [fillB_length], by rw [fillB_length]; exact hnc, hcm, fun _ => ⟨g, 0, rfl, fun hm => by have := hL g hm; omega, fun i hi => ?_⟩⟩
    have hc := h.cells (g := g) rfl i (.int .u8 (bN (bAt (fillB n) i)))
    rw [Addr.add_mid] at hc
    apply hc
    have : (List.range (if n % 64 < 56 then 56 - n % 64 else 120 - n % 64)).map (bF fillHead) ++ (List.range 8).map (bF (lenByte n)) = (fillB n).map fun b => .int .u8 (bN b) := by
      rw [fillB, List.map_append, List.map_map, List.map_map]; rfl
    rw [this]
    simp [bAt, hi]

set_option maxHeartbeats 1000000 in
theorem filled1_seq (L : List Nat) (pb : Nat) (hpb : pb ∉ L) (pv : Value) (ps : List (Value × List UInt8)) (w : World) (hL : ∀ k ∈ L, k < w.heap.size) (hbox : w.cell? ⟨pb, 0, none⟩ = some pv) (hps : PartsAt w L pv ps) (ht : total ps ≤ 4611686018427387904) :
    SeqG Tryd.prog 62 #[.pointer (some ⟨pb, 0, none⟩)] (fun x : Value × List UInt8 => #[x.1]) (KeepBut L) (fun _ x W => RdV W L x.1 x.2) (fun xs => xs.map (·.2) = ps.map (·.2) ++ [fillB (total ps)]) (fun _ => True) w := by
  intro l J Jx W hW hJ hJx hY h0
  have hLW : ∀ k ∈ L, k < W.heap.size := fun k hk => Nat.lt_of_lt_of_le (hL k hk) hW.size
  have hbox' := KeepBut.cell (KeepBut.below hW) hpb hbox
  have hps' := hps.keep (KeepBut.below hW)
  obtain ⟨A, cap, rfl, hpc, hpm, hpA, hpR⟩ := hps'
  have HA := Lib.hid hpA
  have HR := Lib.hid hpR
  unfold maxLen at hpm
  clear hpA hpR hps hbox hL
  refine callsIn_of_wp Tryd.func62 rfl trivial ?_ rfl
  simp only [Tryd.ntmps62, List.size_toArray, List.length_cons, List.length_nil, Nat.reduceAdd, Nat.reduceSub, Array.replicate_succ, Array.replicate_zero, List.push_toArray, List.append_toArray, List.nil_append, List.cons_append]
  gi_wp2
  gi_loopw [3, 8] (fun nv i wr => ∃ (k : Nat) (pre : List (Value × List UInt8)), k ≤ ps.length ∧ i = .int .i64 k ∧ nv = .int .i64 (total (ps.take k) : Nat) ∧ Hid (pre = ps.take k) ∧ J pre wr ∧ KeepBut L W wr) (fun _ i _ => ps.length - (intOf i).toNat)
  case atStart => exact ⟨0, [], by omega, rfl, rfl, rfl, h0, KeepBut.refl _ _⟩
  case round =>
    obtain ⟨k, pre, hk, rfl, rfl, Hpre, hJs, hKs⟩ := hrel
    have htk := total_take ps k
    by_cases hlt : k < ps.length
    · obtain ⟨b, o, rfl, hbL, hcells⟩ := HA.out (by omega)
      have hx : ps[k]? = some ps[k] := List.getElem?_eq_getElem hlt
      have hcell := hKs.cell (a := ⟨b, o + k, none⟩) hbL (hcells k _ hx)
      have hrd := (HR.out ps[k] (List.getElem_mem hlt)).keep hKs
      generalize hxx : ps[k] = x at hcell hrd hx
      have Hxx := Lib.hid hxx
      have Hx := Lib.hid hx
      clear hx hxx hcells
      have htk2 : total (ps.take k) + x.2.length ≤ total ps := by
        have e : ps.take (k + 1) = ps.take k ++ [x] := by rw [List.take_add_one, Hx.out]; rfl
        have := total_take ps (k + 1)
        rw [e, total_snoc] at this; exact this
      obtain ⟨A', cap', hv', h1', h2', _⟩ := hrd
      have hrd := (HR.out x (List.mem_of_getElem? Hx.out)).keep hKs
      obtain ⟨fn, tmps, assign, body, hy, hR⟩ := hY pre x wr hJs hrd
      have Hrd := Lib.hid hrd
      clear hrd
      rw [hv'] at hy hcell
      gi_wp2
      refine ⟨rfl, hR.mono ?_⟩
      rintro e W3 (⟨rfl, hJ3, hk3, _⟩ | ⟨rfl, hJx3, _⟩)
      · gi_wp2
        go_roundw
        case rel =>
          have e : ps.take (k + 1) = ps.take k ++ [x] := by rw [List.take_add_one, Hx.out]; rfl
          exact ⟨k + 1, pre ++ [x], by omega, by go_num, by rw [e, total_snoc]; go_num, Lib.hid (by rw [e, Hpre.out]), hJ3, hKs.trans hk3⟩
        case measure => simp [intOf]; omega
      · gi_wp2
        refine bodyPost_ret (results_none rfl _ _ _) rfl ?_
        exact ⟨⟨_, rfl⟩, .inr ⟨pre ++ [x], trivial, hJx3⟩⟩
    · obtain rfl : k = ps.length := by omega
      rw [List.take_length] at *
      gi_wp2_with fail
      refine ⟨trivial, rfl, (callsIn_wide.2 (Fill_any (total ps) (by omega) _)).mono ?_⟩
      rintro e w2 ⟨v, rfl, hown, hB2⟩
      have hrd := rdV_fill (L := L) (fun k hk => Nat.lt_of_lt_of_le (hLW k hk) hKs.1) hown
      have hJ2 := hJ _ _ _ hJs (hB2.mono hKs.1)
      obtain ⟨fn, tmps, assign, body, hy, hR⟩ := hY pre (v, fillB (total ps)) w2 hJ2 hrd
      clear hown
      have Hrd := Lib.hid hrd
      clear hrd
      gi_wp2
      refine ⟨rfl, hR.mono ?_⟩
      rintro e W3 (⟨rfl, hJ3, hk3, _⟩ | ⟨rfl, hJx3, _⟩)
      · gi_wp2
        go_end0
        exact ⟨⟨_, rfl⟩, .inl ⟨_, by rw [Hpre.out]; simp, hJ3⟩⟩
      · gi_wp2
        go_end0
        exact ⟨⟨_, rfl⟩, .inr ⟨_, trivial, hJx3⟩⟩
end Go.Proofs.YtpoebajpmkcjdaaDoor
