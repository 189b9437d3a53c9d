/- What lies in memory while the order is being made. -/
import Derived.Test.YtaikpjnegopelaaDgO
import Derived.Test.YtaikpjnegopelaaDgD
namespace Go.Proofs.Ytaikpjnegopelaa
open Go.RowKit
set_option linter.unusedVariables false

def bare (w : World) : World := { w with heap := #[] }
theorem bare_gb (w : World) : (bare w).grownBy w none := ⟨rfl, rfl, rfl, Nat.zero_le _, fun i hi _ => absurd hi (Nat.not_lt_zero i)⟩
theorem Fr.nl {w w2 : World} {hb base : Nat} {r : Option Nat} {V : Value} {L : List Int} (h : Fr w w2 hb r) (o : NL w base V L) (hd : ∀ q, V.ownBlock = some q → q ≠ hb ∧ r ≠ some q) : NL w2 base V L := by
  unfold NL at o ⊢
  rcases o.2 with q | ⟨g, cap, cur, h1, h2, h3, h4⟩
  · exact ⟨o.1, Or.inl q⟩
  · have d := hd g (by rw [h1]; rfl)
    have lt : g < w.heap.size := (World.ownsRow.lt o g (by rw [h1]; rfl)).2
    exact ⟨o.1, Or.inr ⟨g, cap, cur, h1, h2, (h.block g lt d.1 d.2).trans h3, h4⟩⟩
structure TK (w0 w : World) (hb : Nat) (VW VH VO : Value) (W H O : List Int) : Prop where
  cnt : NL w w0.heap.size VW W
  clo : ∀ q, VW.ownBlock = some q → q < hb
  var : IsB w hb 45 #[VH]
  row : NL w (hb + 1) VH H
  out : NL w (hb + 1) VO O
  dis : ∀ q, VH.ownBlock = some q → VO.ownBlock ≠ some q
  grown : w0.grownBy w none
  low : w0.heap.size ≤ hb
theorem nl_lt {w : World} {base q : Nat} {V : Value} {L : List Int} (h : NL w base V L) (e : V.ownBlock = some q) : base ≤ q ∧ q < w.heap.size := World.ownsRow.lt h q e
theorem TK.fr {w0 w w2 : World} {hb : Nat} {VW VH VO VH2 : Value} {W H O H2 : List Int} (h : TK w0 w hb VW VH VO W H O) (f : Fr w w2 hb VH.ownBlock) (v : IsB w2 hb 45 #[VH2]) (r : NL w2 (hb + 1) VH2 H2)
    (hn : VH2.ownBlock = VH.ownBlock ∨ ∃ q, VH2.ownBlock = some q ∧ w.heap.size ≤ q) : TK w0 w2 hb VW VH2 VO W H2 O := by
  refine ⟨f.nl h.cnt fun q e => ?_, h.clo, v, r, f.nl h.out fun q e => ?_, fun q e e2 => ?_, ?_, h.low⟩
  · have a := h.clo q e
    exact ⟨by omega, fun e2 => by have := (nl_lt h.row e2).1; omega⟩
  · exact ⟨by have := (nl_lt h.out e).1; omega, fun e2 => h.dis q e2 e⟩
  · rcases hn with k | ⟨q2, k, l⟩
    · exact h.dis q (k ▸ e) e2
    · have := (nl_lt h.out e2).2
      rw [k] at e
      injection e with e
      omega
  · refine ⟨f.os.trans h.grown.os, f.tape.trans h.grown.tape, f.output.trans h.grown.output, Nat.le_trans h.grown.size f.size, fun i hi _ => ?_⟩
    rw [f.block i (Nat.lt_of_lt_of_le hi h.grown.size) (by have := h.low; omega) (fun e => by have := (nl_lt h.row e).1; have := h.low; omega)]
    exact h.grown.block i hi (by simp)
theorem TK.push {w0 w : World} {hb : Nat} {VW VH VO : Value} {W H O : List Int} (h : TK w0 w hb VW VH VO W H O) (v : Int) (hn : H.length ≤ 99999) :
    Calls Try.prog 39 #[.pointer (some ⟨hb, 0, none⟩), .int .i64 v] w fun e w' => e = .returned (.tuple #[]) ∧ ∃ V', TK w0 w' hb VW V' VO W (pushL H v) O := by
  refine (push_heap (bare w) w hb (hb + 1) VH H v ⟨h.var, h.row, bare_gb w, Nat.zero_le _, Nat.zero_le _⟩ hn h.var.lt).mono ?_
  rintro e w2 ⟨rfl, V', q, hn, f⟩
  exact ⟨rfl, V', h.fr f q.var q.row hn⟩
theorem TK.pop {w0 w : World} {hb : Nat} {VW VH VO : Value} {W H O : List Int} (h : TK w0 w hb VW VH VO W H O) (h1 : 1 ≤ H.length) (hn : H.length ≤ 100000) :
    Calls Try.prog 40 #[.pointer (some ⟨hb, 0, none⟩)] w fun e w' => e = .returned (.int .i64 (H.getD 0 0)) ∧ ∃ V', TK w0 w' hb VW V' VO W (popL H) O := by
  refine (pop_any (bare w) w hb (hb + 1) VH H ⟨h.var, h.row, bare_gb w, Nat.zero_le _, Nat.zero_le _⟩ h1 hn).mono ?_
  rintro e w2 ⟨rfl, V', q, hn, f⟩
  exact ⟨rfl, V', h.fr f q.var q.row (.inl hn)⟩
theorem TK.keep {w0 w w2 : World} {hb : Nat} {VW VH VO : Value} {W H O : List Int} (h : TK w0 w hb VW VH VO W H O) (k : w.grownBy w2 none) : TK w0 w2 hb VW VH VO W H O :=
  ⟨h.cnt.keep0 k, h.clo, h.var.keep0 k, h.row.keep0 k, h.out.keep0 k, h.dis, gb_trans h.grown k, h.low⟩
theorem TK.set {w0 w : World} {hb b n c : Nat} {VH VO : Value} {W H O : List Int} (h : TK w0 w hb (.slice (some ⟨b, 0, none⟩) n c) VH VO W H O) (hl : n = W.length) (p : Nat) (v : Int) :
    TK w0 (w.setCell ⟨b, p, none⟩ (.int .i64 v)) hb (.slice (some ⟨b, 0, none⟩) n c) VH VO (W.set p v) H O := by
  have hb1 := h.clo b rfl
  have hb2 := (nl_lt h.cnt (q := b) rfl).1
  refine ⟨h.cnt.put hl p v, h.clo, h.var.set_far (by omega) p _, ?_, ?_, h.dis, gb_put h.grown hb2, h.low⟩
  · exact World.ownsRow.kept h.row (gb_set w b p _) (blk_ne fun q hq e => by injection e with e; have := (nl_lt h.row hq).1; omega)
  · exact World.ownsRow.kept h.out (gb_set w b p _) (blk_ne fun q hq e => by injection e with e; have := (nl_lt h.out hq).1; omega)
theorem TK.outp {w0 w w2 : World} {hb : Nat} {VW VH VO VO2 : Value} {W H O O2 : List Int} (h : TK w0 w hb VW VH VO W H O) (o : NL w2 (hb + 1) VO2 O2) (k : w.grownBy w2 VO.ownBlock)
    (hn : VO2.ownBlock = VO.ownBlock ∨ VO2.ownBlock = some w.heap.size) : TK w0 w2 hb VW VH VO2 W H O2 := by
  have hv : ∀ q, VO.ownBlock = some q → hb + 1 ≤ q := fun q e => (nl_lt h.out e).1
  refine ⟨?_, h.clo, h.var.keep k (fun e => by have := hv hb e.symm; omega), ?_, o, fun q e e2 => ?_, gb_own h.grown h.out (by have := h.low; omega) k, h.low⟩
  · exact World.ownsRow.kept h.cnt k (blk_ne fun q hq e => by have := hv q e; have := h.clo q hq; omega)
  · exact World.ownsRow.kept h.row k (blk_ne fun q hq e => h.dis q hq e)
  · rcases hn with q2 | q2
    · exact h.dis q e (q2 ▸ e2)
    · rw [q2] at e2
      injection e2 with e2
      have := (nl_lt h.row e).2
      omega
end Go.Proofs.Ytaikpjnegopelaa
