/- The law on copies: its walk; no condition but that the argument is a slice of bytes. -/
import Derived.Test.YtgknooblnpmloaaIoS
import Derived.Test.YtgknooblnpmloaaFrame
namespace Go.Proofs.Ytgknooblnpmloaa
open Go.RowKit
set_option linter.unusedVariables false

theorem row_slr {k : IntKind} {w : World} {a : Option Addr} {len cap : Nat} {zs : List Int} (h : IsRow k w a len cap zs) : SlR w a len cap ((zs.take len).map (Value.int k)) := by
  rcases h with ⟨rfl, rfl, rfl, rfl⟩ | ⟨x, rfl, hl, hm, hz, hc, hw⟩
  · exact ⟨rfl, fun _ => ⟨rfl, rfl⟩, by simp⟩
  · refine ⟨by simp; omega, by simp, ?_⟩
    intro ad ha j u hu
    injection ha with ha; subst ha
    have hj : j < len := by
      have := (List.getElem?_eq_some_iff.1 hu).1
      simp at this; omega
    rw [hc j (by omega), ← hu]
    simp [hj, show j < zs.length by omega]
theorem row_wf {k : IntKind} {w : World} {a : Option Addr} {len cap : Nat} {zs : List Int} (h : IsRow k w a len cap zs) : ∀ n ∈ zs.take len, (Lit.int k n).wf = true := by
  intro n hn
  have hn := List.mem_of_mem_take hn
  rcases h with ⟨rfl, rfl, rfl, rfl⟩ | ⟨x, rfl, hl, hm, hz, hc, hw⟩
  · simp at hn
  · exact hw n hn
theorem row_len {k : IntKind} {w : World} {a : Option Addr} {len cap : Nat} {zs : List Int} (h : IsRow k w a len cap zs) : (zs.take len).length = len := by
  rcases h with ⟨rfl, rfl, rfl, rfl⟩ | ⟨x, rfl, hl, hm, hz, hc, hw⟩
  · rfl
  · simp; omega
theorem row_addr {k : IntKind} {w : World} {a : Option Addr} {len cap : Nat} {zs : List Int} (h : IsRow k w a len cap zs) (hp : 0 < len) : ∃ b o, a = some ⟨b, o, none⟩ := by
  rcases h with ⟨rfl, rfl, rfl, rfl⟩ | ⟨x, rfl, hl, hm, hz, hc, hw⟩
  · omega
  · obtain ⟨b, o, spot⟩ := x
    have h0 := hc 0 (by omega)
    have hs : spot = none := by simpa [Addr.add] using World.cell?_spot h0
    subst hs
    exact ⟨b, o, rfl⟩
theorem u8_bd {a : Int} (h : (Lit.int .u8 a).wf = true) : 0 ≤ a ∧ a ≤ 255 := by
  have := bounds_u8 h
  omega

/-- Eight bits from the start make the first byte. -/
theorem acc_byte (x : Int) (t : List Int) (h0 : 0 ≤ x) (h1 : x ≤ 255) : accB (x :: t) 0 8 = x := by
  simp only [accB, bitAt]
  simp
  omega
theorem pack_byte (v : Int) (h0 : 0 ≤ v) (h1 : v ≤ 255) : packB (bitsOf v 8) = [v] := by
  have hv : v = ((v.toNat : Nat) : Int) := by omega
  rw [hv]
  have key : ∀ n : Fin 256, packB (bitsOf (n.val : Int) 8) = [(n.val : Int)] := by decide +kernel
  exact key ⟨v.toNat, by omega⟩
theorem rd8 (bs : List Int) (h : 1 ≤ bs.length) : rdStep bs 0 8 = (0, accB bs 0 8, 8) := by
  unfold rdStep
  rw [if_pos (show okW 8 = true by decide), if_pos (by omega)]
  rfl
theorem wr8 (v : Int) (h0 : 0 ≤ v) (h1 : v ≤ 255) : wrStep [] v 8 = (0, bitsOf v 8) := by
  unfold wrStep
  have hf : fitsB v 8 = true := by
    refine decide_eq_true ⟨by omega, by omega, ?_⟩
    simp; omega
  rw [if_pos (show okW 8 = true by decide), if_pos hf]
  rfl
/-- A store into a block of bytes that is not the reader's. -/
theorem Rdr.far {w : World} {base r s g i : Nat} {V : Value} {bs : List Int} {pos : Nat} {cs : Array Value} {u : Value} (h : Rdr w base r s V bs pos) (hg : IsB w g 5 cs) (hn : V.ownBlock ≠ some g) : Rdr (w.setCell ⟨g, i, none⟩ u) base r s V bs pos :=
  ⟨h.rb.keepS (gb_set w g i u) hg (by decide), h.sb.keepS (gb_set w g i u) hg (by decide), h.own.kept (gb_set w g i u) (.inr hn)⟩
theorem Wtr.far {w : World} {base r s g i : Nat} {V : Value} {L : List Bool} {cs : Array Value} {u : Value} (h : Wtr w base r s V L) (hg : IsB w g 5 cs) (hn : V.ownBlock ≠ some g) : Wtr (w.setCell ⟨g, i, none⟩ u) base r s V L :=
  ⟨h.wb.keepS (gb_set w g i u) hg (by decide), ⟨h.st.sb.keepS (gb_set w g i u) hg (by decide), h.st.own.kept (gb_set w g i u) (.inr hn), h.st.low⟩⟩
theorem own_blk {w : World} {base : Nat} {e : TypeId} {size n g c : Nat} {xs : List Value} (h : w.ownsRow base e size (.slice (some ⟨g, 0, none⟩) n c) n xs) : ∃ cs, IsB w g e cs := by
  rcases h.2 with ⟨h1, _⟩ | ⟨g2, cap, cur, h1, _, hh, _⟩
  · injection h1 with h1; cases h1
  · injection h1 with h1; injection h1 with h1; injection h1 with h1; subst h1; exact ⟨cur, hh⟩
theorem own_far {w : World} {base : Nat} {e : TypeId} {size n g : Nat} {v : Value} {xs : List Value} (h : w.ownsRow base e size v n xs) (hg : g < base) : v.ownBlock ≠ some g := by
  intro e1
  have := (h.lt g e1).1
  omega
theorem own_far2 {w : World} {base : Nat} {e : TypeId} {size n g : Nat} {v : Value} {xs : List Value} (h : w.ownsRow base e size v n xs) (hg : w.heap.size ≤ g) : v.ownBlock ≠ some g := by
  intro e1
  have := (h.lt g e1).2
  omega

end Go.Proofs.Ytgknooblnpmloaa
