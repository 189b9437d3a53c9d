/- The walks of bitio's writer: one bit is appended; no condition but sizes within 60000. -/
import Derived.Test.YtgknooblnpmloaaIoW
namespace Go.Proofs.Ytgknooblnpmloaa
open Go.RowKit

theorem packB_len (L : List Bool) : (packB L).length = (L.length + 7) / 8 := by simp [packB]
theorem packB_get (L : List Bool) (i : Nat) (h : i < (L.length + 7) / 8) : (packB L).getD i 0 = byteAt L i := by simp [packB, h]
theorem packB_range (L : List Bool) : ∀ x ∈ packB L, 0 ≤ x ∧ x ≤ 255 := by
  intro x hx
  unfold packB at hx
  obtain ⟨i, _, rfl⟩ := List.mem_map.1 hx
  exact byteAt_range L i
theorem packB_at (L : List Bool) (i : Nat) (h : i < (packB L).length) : (packB L)[i] = byteAt L i := by simp [packB]
theorem packB_same (L : List Bool) (b : Bool) (h : L.length % 8 ≠ 0) : packB (L ++ [b]) = (packB L).set (L.length / 8) (byteAt (L ++ [b]) (L.length / 8)) := by
  apply List.ext_getElem
  · rw [List.length_set, packB_len, packB_len, List.length_append, List.length_singleton]; omega
  · intro i h1 h2
    rw [List.getElem_set, packB_at]
    split
    · rename_i e; rw [e]
    · rename_i e; rw [packB_at]; exact byteAt_old L b i (fun e2 => e e2.symm)
theorem packB_more (L : List Bool) (b : Bool) (h : L.length % 8 = 0) : packB (L ++ [b]) = (packB L ++ [0]).set (L.length / 8) (byteAt (L ++ [b]) (L.length / 8)) := by
  apply List.ext_getElem
  · rw [List.length_set, List.length_append, packB_len, packB_len, List.length_append, List.length_singleton, List.length_singleton]; omega
  · intro i h1 h2
    rw [List.getElem_set, packB_at]
    split
    · rename_i e; rw [e]
    · rename_i e
      have hi : i < (packB L).length := by
        have k := h1
        rw [packB_len, List.length_append, List.length_singleton] at k
        rw [packB_len]
        omega
      rw [List.getElem_append_left hi, packB_at]
      exact byteAt_old L b i (fun e2 => e e2.symm)
theorem byteAt_none (L : List Bool) (h : L.length % 8 = 0) : byteAt L (L.length / 8) = 0 := by
  unfold byteAt
  rw [bv_out L _ (by omega), bv_out L _ (by omega), bv_out L _ (by omega), bv_out L _ (by omega), bv_out L _ (by omega), bv_out L _ (by omega), bv_out L _ (by omega), bv_out L _ (by omega)]
  rfl

/-- The state of a writer in memory. -/
structure WSt (w : World) (base s : Nat) (V : Value) (L : List Bool) : Prop where
  sb : IsB w s 90 #[V, .int .i64 L.length]
  own : w.ownsRow base 5 1 V (packB L).length ((packB L).map (Value.int .u8))
  low : base ≤ s

/-- A bit has been appended: the state holds it, and nothing else has changed. -/
def Bit (w : World) (base s : Nat) (L : List Bool) (e : Ending) (w' : World) : Prop := e = .returned (.tuple #[]) ∧ GT base w w' ∧ ∃ V, WSt w' base s V L

theorem bit_close {w : World} {base s g c n q : Nat} {L : List Bool} {b : Bool} {xs : List Value} {u : Value} (hb : IsB w s 90 #[.slice (some ⟨g, 0, none⟩) n c, .int .i64 L.length])
    (ho : w.ownsRow base 5 1 (.slice (some ⟨g, 0, none⟩) n c) n xs) (hlow : base ≤ s) (hx : xs.set q u = (packB (L ++ [b])).map (Value.int .u8)) (hn : n = (packB (L ++ [b])).length) :
    Bit w base s (L ++ [b]) (.returned (.tuple #[])) ((w.setCell ⟨g, q, none⟩ u).setCell ⟨s, 1, none⟩ (.int .i64 ((L.length : Int) + 1))).drew := by
  subst hn
  have hgs : g ≠ s := by
    have k := own_ne ho hb (by decide)
    intro e; subst e; exact k rfl
  have hg := ho.lt g rfl
  obtain ⟨cur, hcur⟩ : ∃ cur, IsB w g 5 cur := by
    rcases ho.2 with ⟨h1, _⟩ | ⟨g2, cap, cur, h1, _, hh, _⟩
    · injection h1 with h1; cases h1
    · injection h1 with h1; injection h1 with h1; injection h1 with h1; subst h1; exact ⟨cur, hh⟩
  have s1 := (ho.stored q u).1
  have b1 : IsB (w.setCell ⟨g, q, none⟩ u) s 90 #[.slice (some ⟨g, 0, none⟩) (packB (L ++ [b])).length c, .int .i64 L.length] := hb.set_far (fun e => hgs e.symm) q u
  have b2 := b1.set 1 (.int .i64 ((L.length : Int) + 1))
  have s2 := own_keepS s1 (gb_set (w.setCell ⟨g, q, none⟩ u) s 1 (.int .i64 ((L.length : Int) + 1))) b1 (by decide)
  rw [hx] at s2
  refine ⟨rfl, ?_, .slice (some ⟨g, 0, none⟩) (packB (L ++ [b])).length c, ⟨?_, ?_, hlow⟩⟩
  · exact ((GT.ofRow (gb_set w g q u) hcur (.inl rfl) hg.1).trans (GT.ofRow (gb_set _ s 1 _) b1 (.inr rfl) hlow)).trans (GT.of0 (gb_drew _ none))
  · have k : IsB ((w.setCell ⟨g, q, none⟩ u).setCell ⟨s, 1, none⟩ (.int .i64 ((L.length : Int) + 1))).drew s 90 #[.slice (some ⟨g, 0, none⟩) (packB (L ++ [b])).length c, .int .i64 ((L.length : Int) + 1)] := b2
    simpa using k
  · exact s2.drew
theorem bit_odd (w : World) (base s : Nat) (V : Value) (L : List Bool) (b : Bool) (h : WSt w base s V L) (hn : L.length ≤ 60000) (hr : L.length % 8 ≠ 0) :
    Calls Try.prog 47 #[.pointer (some ⟨s, 0, none⟩), .int .u8 (if b then 1 else 0)] w (Bit w base s (L ++ [b])) := by
  obtain ⟨g, c, rfl⟩ := own_head h.own (by rw [packB_len]; omega)
  have hl := packB_len L
  have c0 : w.cell? ⟨s, 0, none⟩ = some (.slice (some ⟨g, 0, none⟩) (packB L).length c) := h.sb.cell 0
  have c1 : w.cell? ⟨s, 1, none⟩ = some (.int .i64 L.length) := h.sb.cell 1
  have f1 := h.sb.free 1
  have cd := own_cell h.own (L.length / 8) (by omega)
  rw [packB_get L _ (by omega)] at cd
  have fd := h.own.frozenAt (L.length / 8)
  have hgs : g ≠ s := by
    have := own_ne h.own h.sb (by decide)
    intro e; subst e; exact this rfl
  have hsg : s ≠ g := fun e => hgs e.symm
  have hq8 : ((L.length : Int) % 8 == 0) = false := by simp; omega
  have i1 : (L.length : Int) / 8 < (packB L).length := by omega
  have ro := byteAt_range L (L.length / 8)
  have HB := Lib.hid (byteAt_new L b)
  have HL := Lib.hid hl
  clear hl
  have hv : (0 : Int) ≤ (if b then 1 else 0) ∧ (if b then (1 : Int) else 0) ≤ 1 := by cases b <;> simp
  generalize (if b then (1 : Int) else 0) = v at *
  generalize byteAt L (L.length / 8) = old at *
  go_enter Try.func47, Try.ntmps47
  go_wp2
  go_region
  go_wp2
  go_end0
  have hw : v * 2 ^ (7 - L.length % 8) % 256 = v * 2 ^ (7 - L.length % 8) := by
    have hp := pow_pos' (7 - L.length % 8)
    have hp2 := pow_mono (7 - L.length % 8) 7 (by omega)
    have hv2 : v = 0 ∨ v = 1 := by omega
    rcases hv2 with e | e <;> rw [e] <;> simp at hp2 ⊢ <;> omega
  rw [hw, HB.out]
  refine bit_close h.sb h.own h.low ?_ ?_
  · rw [packB_same L b hr, List.map_set]
  · rw [packB_same L b hr, List.length_set]

theorem Bit.from {w w2 : World} {base s : Nat} {L : List Bool} {e : Ending} {w' : World} (h : Bit w2 base s L e w') (k : GT base w w2) : Bit w base s L e w' := ⟨h.1, k.trans h.2.1, h.2.2⟩

set_option maxHeartbeats 1000000 in
theorem bit_even (w : World) (base s : Nat) (V : Value) (L : List Bool) (b : Bool) (h : WSt w base s V L) (hbase : base ≤ w.heap.size) (hn : L.length ≤ 60000) (hr : L.length % 8 = 0) :
    Calls Try.prog 47 #[.pointer (some ⟨s, 0, none⟩), .int .u8 (if b then 1 else 0)] w (Bit w base s (L ++ [b])) := by
  obtain ⟨i0, hi, hz0, hz1, hz2⟩ := info_parts infoU8
  obtain ⟨a, c, rfl⟩ := own_shape h.own
  have hl := packB_len L
  have c0 : w.cell? ⟨s, 0, none⟩ = some (.slice a (packB L).length c) := h.sb.cell 0
  have c1 : w.cell? ⟨s, 1, none⟩ = some (.int .i64 L.length) := h.sb.cell 1
  have hq8 : ((L.length : Int) % 8 == 0) = true := by simp; omega
  have HB := Lib.hid (byteAt_new L b)
  rw [byteAt_none L hr] at HB
  have HL := Lib.hid hl
  have hl2 : (packB L).length * 8 ≤ L.length := by omega
  clear hl
  have hv : (0 : Int) ≤ (if b then 1 else 0) ∧ (if b then (1 : Int) else 0) ≤ 1 := by cases b <;> simp
  generalize (if b then (1 : Int) else 0) = v at *
  have bs1 := h.sb.alloc (.cells #[.int .u8 0] 5)
  have os1 := h.own.alloc (.cells #[.int .u8 0] 5)
  have hown0 : (Value.slice a (packB L).length c).ownBlock ≠ some s := own_ne h.own h.sb (by decide)
  go_enter Try.func47, Try.ntmps47
  go_wp2_with (at_builtin; refine wpList_append_own _ rfl _ _ 33 rfl base 5 i0 (.int .u8 0) 1 1 Try.underlying33 hi hz0 hz1 hz2 rfl (by decide) _ (packB L).length ((packB L).map (Value.int .u8)) rfl os1 ⟨w.heap.size, 0, none⟩ 1 1 [.int .u8 0] rfl rfl ?c1 ?c2 ?c3 ?c4 ?c5 ?_)
  case c1 =>
    intro j u hj
    match j, hj with
    | 0, hj => simp at hj; subst hj; simp [Addr.add]
  case c2 => intro u hu; simp at hu; subst hu; rfl
  case c3 => unfold maxLen; omega
  case c4 => omega
  case c5 => simp; omega
  · intro v' w1 hown hgrow _
    obtain ⟨g, cc, rfl⟩ := own_head hown (by omega)
    have bs2 := bs1.keep hgrow (fun e => hown0 e.symm)
    have k0 : GT base w (w.alloc (.cells #[.int .u8 0] 5)) := GT.of0 (gb_alloc _ _ none)
    have k1 : GT base (w.alloc (.cells #[.int .u8 0] 5)) w1 := GT.ofOwn hgrow os1
    have bs3 := bs2.set 0 (.slice (some ⟨g, 0, none⟩) ((packB L).length + 1) cc)
    have os3 := own_keepS hown (gb_set w1 s 0 (.slice (some ⟨g, 0, none⟩) ((packB L).length + 1) cc)) bs2 (by decide)
    have k2 : GT base w1 (w1.setCell ⟨s, 0, none⟩ (.slice (some ⟨g, 0, none⟩) ((packB L).length + 1) cc)) := GT.ofRow (gb_set w1 s 0 _) bs2 (.inr rfl) h.low
    have K := Lib.hid ((k0.trans k1).trans k2)
    have fs := bs2.free 0
    have cs0 : w1.cell? ⟨s, 0, none⟩ = some (.slice a (packB L).length c) := bs2.cell 0
    clear k0 k1 k2 hown hgrow hown0 c0 c1 bs1 bs2 os1 hi hz0 hz1 hz2
    go_wp2
    clear fs cs0
    have bs4 : IsB (w1.setCell ⟨s, 0, none⟩ (.slice (some ⟨g, 0, none⟩) ((packB L).length + 1) cc)) s 90 #[.slice (some ⟨g, 0, none⟩) ((packB L).length + 1) cc, .int .i64 L.length] := bs3
    clear bs3
    generalize w1.setCell ⟨s, 0, none⟩ (.slice (some ⟨g, 0, none⟩) ((packB L).length + 1) cc) = w2 at *
    have c0 : w2.cell? ⟨s, 0, none⟩ = some (.slice (some ⟨g, 0, none⟩) ((packB L).length + 1) cc) := bs4.cell 0
    have c1 : w2.cell? ⟨s, 1, none⟩ = some (.int .i64 L.length) := bs4.cell 1
    have f1 := bs4.free 1
    have el : (packB L).length = L.length / 8 := by rw [HL.out]; omega
    have cd : w2.cell? ⟨g, L.length / 8, none⟩ = some (.int .u8 0) := by
      rw [os3.cellAt (L.length / 8) (by omega), ← el]; simp
    have fd := os3.frozenAt (L.length / 8)
    have hgs : g ≠ s := by
      have k := own_ne os3 bs4 (by decide)
      intro e; subst e; exact k rfl
    have hsg : s ≠ g := fun e => hgs e.symm
    have i1 : (L.length : Int) / 8 < (packB L).length + 1 := by omega
    have EL := Lib.hid el
    clear el
    go_region
    go_wp2
    go_end0
    have hw : v * 128 % 256 = v * 128 := by omega
    have hb2 : bits .or .u8 0 (v * 128) = byteAt (L ++ [b]) (L.length / 8) := by
      have k := HB.out
      rw [hr] at k
      exact k
    rw [hw, hb2]
    refine (bit_close bs4 os3 h.low ?_ ?_).from K.out
    · rw [packB_more L b hr, List.map_set, List.map_append]; rfl
    · rw [packB_more L b hr, List.length_set, List.length_append]; rfl
theorem bit_any (w : World) (base s : Nat) (V : Value) (L : List Bool) (b : Bool) (h : WSt w base s V L) (hbase : base ≤ w.heap.size) (hn : L.length ≤ 60000) :
    Calls Try.prog 47 #[.pointer (some ⟨s, 0, none⟩), .int .u8 (if b then 1 else 0)] w (Bit w base s (L ++ [b])) := by
  by_cases hr : L.length % 8 = 0
  · exact bit_even w base s V L b h hbase hn hr
  · exact bit_odd w base s V L b h hn hr
end Go.Proofs.Ytgknooblnpmloaa
