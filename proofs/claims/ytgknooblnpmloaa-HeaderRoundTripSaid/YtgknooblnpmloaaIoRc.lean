/- The law on readers: its walk; no condition but that the arguments are slices of numbers. -/
import Derived.Test.YtgknooblnpmloaaIoRb
import Derived.Test.YtgknooblnpmloaaIoCp
namespace Go.Proofs.Ytgknooblnpmloaa
open Go.RowKit
set_option linter.unusedVariables false

def restR (bs : List Int) (pos : Nat) : Int × List Int := if pos % 8 = 0 then (0, bs.drop (pos / 8)) else (10, [])
/-- The call returns bytes of its own and an error code; the world only grows. -/
def RetE (er : Int) (rb : List Int) (w : World) (e : Ending) (w' : World) : Prop :=
  ∃ v', e = .returned (.tuple #[v', .int .i64 er]) ∧ w.grownBy w' none ∧ w'.ownsRow w.heap.size 5 1 v' rb.length (rb.map (Value.int .u8))
theorem Rdr.low {w : World} {base base2 r s : Nat} {V : Value} {bs : List Int} {pos : Nat} (h : Rdr w base r s V bs pos) (hb : base2 ≤ base) : Rdr w base2 r s V bs pos := ⟨h.rb, h.sb, own_low h.own hb⟩

def RIn (W : World) (r s xb : Nat) (V : Value) (bs : List Int) (ax : Option Addr) (cx pos pos2 : Nat) (w : World) : Prop :=
  Rdr w W.heap.size r s V bs pos2 ∧ IsB w xb 37 #[.slice ax bs.length cx, .int .i64 pos] ∧ w.ownsRow W.heap.size 5 1 (.slice ax bs.length cx) bs.length (bs.map (Value.int .u8)) ∧ Below W.heap.size W w
theorem cell_grown {w w2 : World} {a : Addr} {v : Value} (h : w.cell? a = some v) (k : w.grownBy w2 none) : w2.cell? a = some v := by
  have hl : a.block < w.heap.size := by
    rcases Nat.lt_or_ge a.block w.heap.size with q | q
    · exact q
    · unfold World.cell? at h; rw [Array.getElem?_eq_none q] at h; simp at h
  have e := k.block a.block hl (by simp)
  unfold World.cell? at h ⊢
  rw [e]; exact h
theorem rs_step {W w w2 : World} {r s xb : Nat} {V : Value} {bs : List Int} {ax : Option Addr} {cx pos pos2 : Nat} {ad : Addr} {x y z : Value}
    (h : w.cell? ⟨xb, 0, none⟩ = some x ∧ w.cell? ⟨xb, 1, none⟩ = some y ∧ w.cell? ad = some z ∧ RIn W r s xb V bs ax cx pos pos2 w) (k : w.grownBy w2 none) :
    w2.cell? ⟨xb, 0, none⟩ = some x ∧ w2.cell? ⟨xb, 1, none⟩ = some y ∧ w2.cell? ad = some z ∧ RIn W r s xb V bs ax cx pos pos2 w2 :=
  ⟨cell_grown h.1 k, cell_grown h.2.1 k, cell_grown h.2.2.1 k, h.2.2.2.1.keep0 k, h.2.2.2.2.1.keep0 k, own_keep0 h.2.2.2.2.2.1 k, h.2.2.2.2.2.2.grown k h.2.2.2.2.2.2.size (by intro k hk; cases hk)⟩
theorem rs_own {W w : World} {r s xb : Nat} {V : Value} {bs : List Int} {ax : Option Addr} {cx pos pos2 : Nat} {ad : Addr} {x y z : Value}
    (h : w.cell? ⟨xb, 0, none⟩ = some x ∧ w.cell? ⟨xb, 1, none⟩ = some y ∧ w.cell? ad = some z ∧ RIn W r s xb V bs ax cx pos pos2 w) : w.ownsRow W.heap.size 5 1 (.slice ax bs.length cx) bs.length (bs.map (Value.int .u8)) := h.2.2.2.2.2.1
theorem alloc_two {w w2 : World} {x y : Value} {t : TypeId} (g : (w.drew.alloc (.cells #[x, y] t)).grownBy w2 none) : w2.cell? ⟨w.heap.size, 0, none⟩ = some x ∧ w2.cell? ⟨w.heap.size, 1, none⟩ = some y ∧ w2.frozen? ⟨w.heap.size, 0, none⟩ = false ∧ w2.frozen? ⟨w.heap.size, 1, none⟩ = false := by
  have h : IsB w2 w.heap.size t #[x, y] := (IsB.new w.drew t #[x, y]).keep0 g
  exact ⟨h.cell 0, h.cell 1, h.free 0, h.free 1⟩

theorem rin_set {W w : World} {r s xb : Nat} {V : Value} {bs : List Int} {ax : Option Addr} {cx pos pos2 : Nat} (h : RIn W r s xb V bs ax cx pos pos2 w) (hx : W.heap.size ≤ xb) :
    RIn W r s xb V bs ax cx pos2 pos2 ((w.setCell ⟨xb, 0, none⟩ (.slice ax bs.length cx)).setCell ⟨xb, 1, none⟩ (.int .i64 pos2)) := by
  have g0 := gb_set w xb 0 (.slice ax bs.length cx)
  have n0 := h.2.1.set 0 (.slice ax bs.length cx)
  have g1 := gb_set (w.setCell ⟨xb, 0, none⟩ (.slice ax bs.length cx)) xb 1 (.int .i64 pos2)
  have n1 := n0.set 1 (.int .i64 pos2)
  refine ⟨⟨(h.1.rb.keepS g0 h.2.1 (by decide)).keepS g1 n0 (by decide), (h.1.sb.keepS g0 h.2.1 (by decide)).keepS g1 n0 (by decide), own_keepS (own_keepS h.1.own g0 h.2.1 (by decide)) g1 n0 (by decide)⟩, n1, own_keepS (own_keepS h.2.2.1 g0 h.2.1 (by decide)) g1 n0 (by decide), ?_⟩
  exact (h.2.2.2.setCell (p := ⟨xb, 0, none⟩) hx _).setCell (p := ⟨xb, 1, none⟩) hx _
theorem rin_grown {W w w2 : World} {r s xb : Nat} {V : Value} {bs : List Int} {ax : Option Addr} {cx pos pos2 : Nat} (h : RIn W r s xb V bs ax cx pos pos2 w) (k : w.grownBy w2 none) : RIn W r s xb V bs ax cx pos pos2 w2 :=
  ⟨h.1.keep0 k, h.2.1.keep0 k, own_keep0 h.2.2.1 k, h.2.2.2.grown k h.2.2.2.size (by intro k hk; cases hk)⟩

theorem rrem_any2 (w : World) (a : Option Addr) (n c pos : Nat) (hn : n ≤ 60000) (hp : pos ≤ 8 * n) :
    Calls Try.prog 24 #[.agg #[.slice a n c, .int .i64 pos]] w (RetQ (.int .i64 ((n : Int) * 8 - pos)) w none fun _ => True) := by
  rw [show (n : Int) * 8 - pos = 8 * (n : Int) - pos by omega]
  exact rrem_any w a n c pos hn hp
/-- What the round holds where it compares. -/
def Big (W : World) (r s xb : Nat) (V : Value) (bs : List Int) (ax : Option Addr) (cx pos : Nat) (v7 v8 : Value) (rb : List Int) (w : World) : Prop :=
  RIn W r s xb V bs ax cx pos pos w ∧ w.ownsRow W.heap.size 5 1 v7 rb.length (rb.map (Value.int .u8)) ∧ w.ownsRow W.heap.size 5 1 v8 rb.length (rb.map (Value.int .u8))
theorem Big.step {W w w2 : World} {r s xb : Nat} {V : Value} {bs : List Int} {ax : Option Addr} {cx pos : Nat} {v7 v8 : Value} {rb : List Int} (h : Big W r s xb V bs ax cx pos v7 v8 rb w) (k : w.grownBy w2 none) : Big W r s xb V bs ax cx pos v7 v8 rb w2 :=
  ⟨rin_grown h.1 k, own_keep0 h.2.1 k, own_keep0 h.2.2 k⟩
theorem rz_of {W w : World} {r s xb : Nat} {V : Value} {bs : List Int} {ax : Option Addr} {cx pos : Nat} {a7 a8 : Option Addr} {c7 c8 : Nat} {rb : List Int} (h : Big W r s xb V bs ax cx pos (.slice a7 rb.length c7) (.slice a8 rb.length c8) rb w) :
    w.cell? ⟨xb, 0, none⟩ = some (.slice ax bs.length cx) ∧ w.cell? ⟨xb, 1, none⟩ = some (.int .i64 pos) ∧ (convert 33 9 (.slice a7 rb.length c7)).run Try.prog w = .ok (.string (strOf rb)) w ∧ (convert 33 9 (.slice a8 rb.length c8)).run Try.prog w = .ok (.string (strOf rb)) w ∧ Big W r s xb V bs ax cx pos (.slice a7 rb.length c7) (.slice a8 rb.length c8) rb w :=
  ⟨h.1.2.1.cell 0, h.1.2.1.cell 1, conv_str w _ _ _ rb (own_slr h.2.1), conv_str w _ _ _ rb (own_slr h.2.2), h⟩
theorem rz_step {W w w2 : World} {r s xb : Nat} {V : Value} {bs : List Int} {ax : Option Addr} {cx pos : Nat} {a7 a8 : Option Addr} {c7 c8 : Nat} {rb : List Int} {p1 p2 p3 p4 : Prop} (h : p1 ∧ p2 ∧ p3 ∧ p4 ∧ Big W r s xb V bs ax cx pos (.slice a7 rb.length c7) (.slice a8 rb.length c8) rb w) (k : w.grownBy w2 none) :
    w2.cell? ⟨xb, 0, none⟩ = some (.slice ax bs.length cx) ∧ w2.cell? ⟨xb, 1, none⟩ = some (.int .i64 pos) ∧ (convert 33 9 (.slice a7 rb.length c7)).run Try.prog w2 = .ok (.string (strOf rb)) w2 ∧ (convert 33 9 (.slice a8 rb.length c8)).run Try.prog w2 = .ok (.string (strOf rb)) w2 ∧ Big W r s xb V bs ax cx pos (.slice a7 rb.length c7) (.slice a8 rb.length c8) rb w2 :=
  rz_of (h.2.2.2.2.step k)
theorem rz_rd {W w : World} {r s xb : Nat} {V : Value} {bs : List Int} {ax : Option Addr} {cx pos : Nat} {v7 v8 : Value} {rb : List Int} {p1 p2 p3 p4 : Prop} (h : p1 ∧ p2 ∧ p3 ∧ p4 ∧ Big W r s xb V bs ax cx pos v7 v8 rb w) : Rdr w W.heap.size r s V bs pos := h.2.2.2.2.1.1

end Go.Proofs.Ytgknooblnpmloaa
