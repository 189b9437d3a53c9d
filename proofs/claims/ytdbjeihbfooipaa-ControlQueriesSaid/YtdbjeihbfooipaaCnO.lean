/- Control: what a node's check answers: the table, the methods; no condition but that the tables are not many. -/
import Derived.Test.YtdbjeihbfooipaaCnA
import Derived.Test.YtdbjeihbfooipaaMi
import Derived.Test.YtdbjeihbfooipaaExJ
import Derived.Test.YtdbjeihbfooipaaCnE
namespace Go.Proofs.Ytdbjeihbfooipaa
open Go.RowKit
set_option linter.unusedVariables false
/-- The table of a node: a number of a table, applied for the first time. -/
def tblE (tn : Nat) (ap : List Int) (t : Int) : Int := if t < 0 ∨ (tn : Int) ≤ t then 8 else if t ∈ ap then 7 else 0
/-- The expressions of a control flow are read without parameters; the packet does not matter. -/
def cxP (H : List (ByteArray × List Fld)) (M : List Fld) : Cx := ⟨H, M, [], [], [], [], []⟩
def cndE (H : List (ByteArray × List Fld)) (M : List Fld) (N : List Nd) : Int := if rE (wholeT (cxP H M) N) = 0 then (if rW (wholeT (cxP H M) N) = 1 then 0 else 10) else rE (wholeT (cxP H M) N)
/-- What the check of a node answers. -/
def nodE (H : List (ByteArray × List Fld)) (M : List Fld) (tn : Nat) (ap : List Int) (x : CV) : Int :=
  if x.k = 1 then (if tblE tn ap x.t = 0 then (if 0 < x.s.n ∨ 0 < x.u.n then 5 else 0) else tblE tn ap x.t)
  else if x.k = 2 then cndE H M x.N else if x.k = 3 then tblE tn ap x.t else 11
def appl' (x : CV) : Bool := x.k == 1 || x.k == 3
/-- The program's cells, and the map of the tables so far. -/
structure CK (w : World) (cb mb : Nat) (X : KX) (ap : List Int) : Prop where
  c : IsB w cb 137 #[.string X.nm, .slice X.ha X.hn X.hc, .slice X.ma X.mn X.mc, .slice X.a0 X.n0 X.c0, .slice X.a1 X.n1 X.c1, .slice X.a2 X.n2 X.c2, .slice X.a3 X.n3 X.c3, .slice X.a4 X.n4 X.c4, .slice X.a5 X.n5 X.c5, .map (some mb)]
  m : MI w mb ap
  ne : cb ≠ mb
theorem CK.keep0 {w w2 : World} {cb mb : Nat} {X : KX} {ap : List Int} (h : CK w cb mb X ap) (k : w.grownBy w2 none) : CK w2 cb mb X ap := ⟨h.c.keep0 k, h.m.keep0 k, h.ne⟩
theorem tblE_bad {tn : Nat} {ap : List Int} {t : Int} (h : t < 0 ∨ (tn : Int) ≤ t) : tblE tn ap t = 8 := by unfold tblE; rw [if_pos h]
theorem tblE_dup {tn : Nat} {ap : List Int} {t : Int} (h : ¬ (t < 0 ∨ (tn : Int) ≤ t)) (m : t ∈ ap) : tblE tn ap t = 7 := by unfold tblE; rw [if_neg h, if_pos m]
theorem tblE_ok {tn : Nat} {ap : List Int} {t : Int} (h : ¬ (t < 0 ∨ (tn : Int) ≤ t)) (m : ¬ t ∈ ap) : tblE tn ap t = 0 := by unfold tblE; rw [if_neg h, if_neg m]
/-- The check of a table: what it answers; the map has the table where it is good. -/
def RetTb (w : World) (cb mb : Nat) (X : KX) (ap : List Int) (E : Int) (t : Int) (e : Ending) (w' : World) : Prop :=
  e = .returned (.int .i64 E) ∧ CK w' cb mb X (if E = 0 then ap ++ [t] else ap) ∧ w.grownBy w' (some mb)
set_option maxRecDepth 100000 in
set_option maxHeartbeats 8000000 in
theorem ctbl_any (w : World) (cb mb : Nat) (X : KX) (ap : List Int) (h : CK w cb mb X ap) (hl : ap.length ≤ 1000) (hT : X.n2 ≤ 1000000) (t : Int) :
    Calls Try.prog 198 #[.pointer (some ⟨cb, 0, none⟩), .int .i64 t] w (RetTb w cb mb X ap (tblE X.n2 ap t) t) := by
  have HC := Lib.hid h
  have c5 := h.c.cell 5
  have c9 := h.c.cell 9
  dsimp at c5 c9
  by_cases h0 : t < 0
  · have TE := Lib.hid (tblE_bad (ap := ap) (tn := X.n2) (t := t) (.inl h0))
    clear h
    go_enter Try.func198, Try.ntmps198
    go_wp2
    go_ret
    rw [TE.out]
    exact ⟨rfl, HC.out, gb_refl _ _⟩
  by_cases h1 : (X.n2 : Int) ≤ t
  · have TE := Lib.hid (tblE_bad (ap := ap) (tn := X.n2) (t := t) (.inr h1))
    clear h
    go_enter Try.func198, Try.ntmps198
    go_wp2
    go_ret
    rw [TE.out]
    exact ⟨rfl, HC.out, gb_refl _ _⟩
  have rt : Rng t := ⟨by omega, by omega⟩
  have hb : ¬ (t < 0 ∨ (X.n2 : Int) ≤ t) := by omega
  by_cases hm : t ∈ ap
  · have TE := Lib.hid (tblE_dup hb hm)
    have lk := h.m.look t rt
    rw [decide_eq_true hm] at lk
    clear h rt hb hm
    go_enter Try.func198, Try.ntmps198
    go_wp2
    go_ret
    rw [TE.out]
    exact ⟨rfl, HC.out, gb_refl _ _⟩
  · have TE := Lib.hid (tblE_ok hb hm)
    have lk := h.m.look t rt
    rw [decide_eq_false hm] at lk
    obtain ⟨w2, hr, hm2, hg2⟩ := h.m.put t rt (by omega)
    have K2 := Lib.hid (show CK w2 cb mb X (ap ++ [t]) from ⟨h.c.keep hg2 (by intro e; injection e with e; exact h.ne e), hm2, h.ne⟩)
    have G2 := Lib.hid hg2
    clear h rt hb hm hm2 hg2
    go_enter Try.func198, Try.ntmps198
    go_wp2
    go_ret
    rw [TE.out]
    exact ⟨rfl, K2.out, G2.out⟩
end Go.Proofs.Ytdbjeihbfooipaa
