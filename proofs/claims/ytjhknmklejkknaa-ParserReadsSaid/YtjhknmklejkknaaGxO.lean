/- Several texts in one: PtA, PtB. -/
import Derived.Test.YtjhknmklejkknaaPsX
import Derived.Test.YtjhknmklejkknaaPsN
import Derived.Deep.QuietTactic
import Derived.BigQuiet
import Derived.Deep.RegionWith
import Derived.StillTailTactics
import Derived.Test.YtjhknmklejkknaaEvP
section
namespace Go.Proofs.Ytjhknmklejkknaa
open Go.RowKit
set_option linter.unusedVariables false
def hX : List (ByteArray × List Fld) := [(⟨#[104]⟩, [(⟨#[97]⟩, 8)])]
def sX : List Pst := [⟨⟨#[115]⟩, [0], true, 0, 0, [⟨1, 255, 1⟩], -2⟩, ⟨⟨#[116]⟩, [], false, 0, 0, [], -1⟩]
theorem idX : isI ⟨#[104]⟩ = true ∧ isI ⟨#[97]⟩ = true ∧ isI ⟨#[115]⟩ = true ∧ isI ⟨#[116]⟩ = true := ⟨by decide +kernel, by decide +kernel, by decide +kernel, by decide +kernel⟩
theorem ne_st : eqS ⟨#[115]⟩ ⟨#[116]⟩ = false := by unfold eqS; rw [ByteArray.toList_eq, ByteArray.toList_eq]; decide
theorem chkX : chkH ⟨#[104]⟩ [(⟨#[97]⟩, 8)] = 0 := by
  have h1 : chkF [(⟨#[97]⟩, 8)] 0 = 0 := by unfold chkF; simp [idX, hasNm]
  have h3 : errs [(⟨#[97]⟩, 8)] 1 = 0 := errs_next _ 0 rfl h1
  unfold chkH
  rw [idX.1, if_neg (by decide), if_neg (by decide), if_neg (by decide), show ([(⟨#[97]⟩, 8)] : List Fld).length = 1 from rfl, if_pos h3]
  decide
theorem hdsX : hdsOk hX := by
  intro x hx
  simp only [hX, List.mem_cons, List.mem_nil_iff, or_false] at hx
  subst hx
  exact chkX
theorem hzX : HZ hX := by
  refine ⟨fun x hx => ?_, fun x hx => ?_⟩
  · simp only [hX, List.mem_cons, List.mem_nil_iff, or_false] at hx
    subst hx
    exact ⟨by decide, fun p hp => by simp only [List.mem_cons, List.mem_nil_iff, or_false] at hp; subst hp; decide⟩
  · simp only [hX, List.mem_cons, List.mem_nil_iff, or_false] at hx
    subst hx; decide
theorem nzX (i : Nat) : (sX.getD i psz).nm.size ≤ 9223372036854775807 := by
  match i with
  | 0 => decide
  | 1 => decide
  | i + 2 => exact show (psz.nm).size ≤ 9223372036854775807 by decide
theorem pkX : PkC hX [] sX 0 0 0 := by
  refine .inr (.inr (.inr ⟨by decide, by decide, fun k hk => ?_, rfl, rfl, rfl⟩))
  have hk : k < 2 := hk
  match k, hk with
  | 0, _ =>
    refine ⟨?_, fun j hj => ?_, by decide⟩
    · show (if isI ⟨#[115]⟩ = false then 6 else if dupB sX 0 = true then 7 else _) = (0 : Int)
      rw [idX.2.2.1, if_neg (by decide), if_neg (by decide), if_neg (by decide), if_neg (by decide +kernel), if_neg (by decide)]
    · have hj : j < 1 := hj
      obtain rfl : j = 0 := by omega
      decide +kernel
  | 1, _ =>
    refine ⟨?_, fun j hj => absurd hj (Nat.not_lt_zero _), by decide⟩
    show (if isI ⟨#[116]⟩ = false then 6 else if dupB sX 1 = true then 7 else _) = (0 : Int)
    rw [idX.2.2.2, if_neg (by decide), show dupB sX 1 = false by show (eqS ⟨#[115]⟩ ⟨#[116]⟩ || false) = false; rw [ne_st]; rfl, if_neg (by decide), if_neg (by decide), if_neg (by decide), if_neg (by decide)]
theorem pkNo : PkC [] [] [] (-1) (-1) 8 := .inl ⟨rfl, rfl, rfl, rfl⟩
theorem inX (n : Nat) (h : n ≤ 512) : inE 0 true n = 0 := by unfold inE; rw [if_neg (by simp), if_neg (by omega)]
theorem rdX (bs : List Int) (pos : Nat) : rdH ⟨#[104]⟩ [(⟨#[97]⟩, 8)] bs pos = if (bs.length : Int) * 8 - pos < 8 then (3, [], pos) else (0, [accB bs pos 8], pos + 8) := by
  unfold rdH
  rw [chkX, if_neg (by decide)]
  rfl
theorem exX (bs : List Int) (L : EL) (pos : Nat) : pEx hX bs L pos 0 = if (bs.length : Int) * 8 - pos < 8 then (3, L, pos) else (0, ⟨L.V.set 0 true, L.F.set 0 [accB bs pos 8], L.T, L.P⟩, pos + 8) := by
  unfold pEx
  show (if (rdH ⟨#[104]⟩ [(⟨#[97]⟩, 8)] bs pos).1 = 0 then _ else _) = _
  have e : rdH (hX.getD 0 hz).1 (hX.getD 0 hz).2 bs pos = rdH ⟨#[104]⟩ [(⟨#[97]⟩, 8)] bs pos := rfl
  rw [e, rdX]
  split
  · rfl
  · rfl
theorem run19 : (⟨[true], [[1]], [], [9]⟩, [0, 1], 0) = pRun hX [] sX [1, 9] (inE 0 true 2) := by
  rw [inX 2 (by decide)]
  have e1 : pExs hX [1, 9] [0] (newE hX []) 0 = (0, ⟨[true], [[1]], [], []⟩, 8) := by
    have p : pEx hX [1, 9] (newE hX []) 0 0 = (0, ⟨[true], [[1]], [], []⟩, 8) := by
      rw [exX, if_neg (by decide), show accB [1, 9] 0 8 = 1 by decide +kernel]
      rfl
    show (if (pEx hX [1, 9] (newE hX []) 0 0).1 = 0 then pExs hX [1, 9] [] (pEx hX [1, 9] (newE hX []) 0 0).2.1 (pEx hX [1, 9] (newE hX []) 0 0).2.2 else pEx hX [1, 9] (newE hX []) 0 0) = _
    rw [p]
    rfl
  have g : pGo hX [1, 9] sX 12 0 [0] (newE hX []) 0 = (0, [0, 1], ⟨[true], [[1]], [], []⟩, 8) := by
    show pGo hX [1, 9] sX (11 + 1) 0 [0] (newE hX []) 0 = _
    rw [pGo_step (0, ⟨[true], [[1]], [], []⟩, 8) e1 1 (by decide +kernel)]
    rw [if_pos rfl, if_neg (by decide), if_neg (by decide)]
    show pGo hX [1, 9] sX (10 + 1) 1 [0, 1] _ 8 = _
    rw [pGo_step (0, ⟨[true], [[1]], [], []⟩, 8) rfl (-1) (by decide +kernel)]
    rw [if_pos rfl, if_neg (by decide), if_pos rfl]
  unfold pRun
  rw [if_neg (by decide), g]
  rfl
theorem run2 : (newE hX [], [0], 15) = pRun hX [] sX [2] (inE 0 true 1) := by
  rw [inX 1 (by decide)]
  have e1 : pExs hX [2] [0] (newE hX []) 0 = (0, ⟨[true], [[2]], [], []⟩, 8) := by
    have p : pEx hX [2] (newE hX []) 0 0 = (0, ⟨[true], [[2]], [], []⟩, 8) := by
      rw [exX, if_neg (by decide), show accB [2] 0 8 = 2 by decide +kernel]
      rfl
    show (if (pEx hX [2] (newE hX []) 0 0).1 = 0 then pExs hX [2] [] (pEx hX [2] (newE hX []) 0 0).2.1 (pEx hX [2] (newE hX []) 0 0).2.2 else pEx hX [2] (newE hX []) 0 0) = _
    rw [p]
    rfl
  have g : pGo hX [2] sX 12 0 [0] (newE hX []) 0 = (15, [0], ⟨[true], [[2]], [], []⟩, 8) := by
    show pGo hX [2] sX (11 + 1) 0 [0] (newE hX []) 0 = _
    rw [pGo_step (0, ⟨[true], [[2]], [], []⟩, 8) e1 (-2) (by decide +kernel)]
    rw [if_pos rfl, if_pos rfl]
  unfold pRun
  rw [if_neg (by decide), g]
  rfl
theorem run0 : (newE hX [], [0], 3) = pRun hX [] sX [] (inE 0 true 0) := by
  rw [inX 0 (by decide)]
  have e1 : pExs hX [] [0] (newE hX []) 0 = (3, newE hX [], 0) := by
    have p : pEx hX [] (newE hX []) 0 0 = (3, newE hX [], 0) := by rw [exX, if_pos (by decide)]
    show (if (pEx hX [] (newE hX []) 0 0).1 = 0 then pExs hX [] [] (pEx hX [] (newE hX []) 0 0).2.1 (pEx hX [] (newE hX []) 0 0).2.2 else pEx hX [] (newE hX []) 0 0) = _
    rw [p]
    rfl
  have g : pGo hX [] sX 12 0 [0] (newE hX []) 0 = (3, [0], newE hX [], 0) := by
    show pGo hX [] sX (11 + 1) 0 [0] (newE hX []) 0 = _
    rw [pGo_step (3, newE hX [], 0) e1 _ rfl]
    rw [if_neg (by decide)]
  unfold pRun
  rw [if_neg (by decide), g]
  rfl
end Go.Proofs.Ytjhknmklejkknaa
end
section
namespace Go.Proofs.Ytjhknmklejkknaa
open Go.RowKit
set_option linter.unusedVariables false
theorem sfp_1 {w : World} {g : Nat} {t : TypeId} {s : ByteArray} {x : Int} (h : IsB w g t #[.string s, .int .i64 x]) : SF w (some ⟨g, 0, none⟩) 1 1 [(s, x)] := by
  refine ⟨rfl, (fun e => by cases e), Nat.le_refl _, fun ad e j hj => ?_⟩
  cases e
  obtain rfl : j = 0 := by omega
  exact ⟨by simpa [Addr.add] using h.cell 0, by simpa [Addr.add] using h.cell 1⟩
theorem shp_1 {w : World} {g : Nat} {t : TypeId} {s : ByteArray} {a : Option Addr} {n c : Nat} {L : List Fld} (h : IsB w g t #[.string s, .slice a n c]) (h1 : SF w a n c L) : SH w (some ⟨g, 0, none⟩) 1 1 [(s, L)] := by
  refine ⟨rfl, (fun e => by cases e), Nat.le_refl _, fun ad e j hj => ?_⟩
  cases e
  obtain rfl : j = 0 := by omega
  exact ⟨by simpa [Addr.add] using h.cell 0, a, n, c, by simpa [Addr.add] using h.cell 1, h1⟩
theorem sip_1 {w : World} {g : Nat} {t : TypeId} {x : Int} (h : IsB w g t #[.int .i64 x]) (r : ∀ z ∈ [x], -9223372036854775808 ≤ z ∧ z ≤ 9223372036854775807) : SI w (some ⟨g, 0, none⟩) 1 1 [x] := by
  refine ⟨rfl, (fun e => by cases e), Nat.le_refl _, fun ad e j hj => ?_, r⟩
  cases e
  obtain rfl : j = 0 := by omega
  simpa [Addr.add] using h.cell 0
theorem sip_2 {w : World} {g : Nat} {t : TypeId} {x y : Int} (h : IsB w g t #[.int .i64 x, .int .i64 y]) (r : ∀ z ∈ [x, y], -9223372036854775808 ≤ z ∧ z ≤ 9223372036854775807) : SI w (some ⟨g, 0, none⟩) 2 2 [x, y] := by
  refine ⟨rfl, (fun e => by cases e), Nat.le_refl _, fun ad e j hj => ?_, r⟩
  cases e
  rcases (show j = 0 ∨ j = 1 by omega) with rfl | rfl
  · simpa [Addr.add] using h.cell 0
  · simpa [Addr.add] using h.cell 1
theorem scap_1 {w : World} {g : Nat} {t : TypeId} {v m x : Int} (h : IsB w g t #[.int .u32 v, .int .u32 m, .int .i64 x]) (hv : 0 ≤ v ∧ v < 4294967296) (hm : 0 ≤ m ∧ m < 4294967296) : SCa w (some ⟨g, 0, none⟩) 1 1 [⟨v, m, x⟩] := by
  refine ⟨rfl, (fun e => by cases e), Nat.le_refl _, fun ad e j hj => ?_⟩
  cases e
  obtain rfl : j = 0 := by omega
  exact ⟨⟨by simpa [Addr.add] using h.cell 0, hv⟩, ⟨by simpa [Addr.add] using h.cell 1, hm⟩, by simpa [Addr.add] using h.cell 2⟩
theorem spsp_2 {w : World} {g : Nat} {t : TypeId} {s s2 : ByteArray} {a c : Option Addr} {an ac cn cc : Nat} {b b2 : Bool} {h1 f1 d1 h2 f2 d2 : Int} {X : List Int} {Cs : List Cse}
    (h : IsB w g t #[.string s, .slice a an ac, .bool b, .int .i64 h1, .int .i64 f1, .slice c cn cc, .int .i64 d1, .string s2, .slice none 0 0, .bool b2, .int .i64 h2, .int .i64 f2, .slice none 0 0, .int .i64 d2]) (hX : SI w a an ac X) (hC : SCa w c cn cc Cs) : SPs w (some ⟨g, 0, none⟩) 2 2 [⟨s, X, b, h1, f1, Cs, d1⟩, ⟨s2, [], b2, h2, f2, [], d2⟩] := by
  refine ⟨rfl, (fun e => by cases e), Nat.le_refl _, fun ad e j hj => ?_⟩
  cases e
  rcases (show j = 0 ∨ j = 1 by omega) with rfl | rfl
  · exact ⟨by simpa [Addr.add] using h.cell 0, ⟨a, an, ac, by simpa [Addr.add] using h.cell 1, hX⟩, by simpa [Addr.add] using h.cell 2, by simpa [Addr.add] using h.cell 3, by simpa [Addr.add] using h.cell 4, ⟨c, cn, cc, by simpa [Addr.add] using h.cell 5, hC⟩, by simpa [Addr.add] using h.cell 6⟩
  · exact ⟨by simpa [Addr.add] using h.cell 7, ⟨none, 0, 0, by simpa [Addr.add] using h.cell 8, si_nil w⟩, by simpa [Addr.add] using h.cell 9, by simpa [Addr.add] using h.cell 10, by simpa [Addr.add] using h.cell 11, ⟨none, 0, 0, by simpa [Addr.add] using h.cell 12, sl_nil w⟩, by simpa [Addr.add] using h.cell 13⟩
theorem syp_1 {w : World} {g : Nat} {t : TypeId} {x : Int} (h : IsB w g t #[.int .u8 x]) (r : ∀ z ∈ [x], 0 ≤ z ∧ z < 256) : SY w (some ⟨g, 0, none⟩) 1 1 [x] := by
  refine ⟨⟨rfl, (fun e => by cases e), fun ad e j u hu => ?_⟩, Nat.le_refl _, r⟩
  cases e
  match j, hu with
  | 0, hu => simp at hu; subst hu; simpa [Addr.add] using h.cell 0
theorem syp_2 {w : World} {g : Nat} {t : TypeId} {x y : Int} (h : IsB w g t #[.int .u8 x, .int .u8 y]) (r : ∀ z ∈ [x, y], 0 ≤ z ∧ z < 256) : SY w (some ⟨g, 0, none⟩) 2 2 [x, y] := by
  refine ⟨⟨rfl, (fun e => by cases e), fun ad e j u hu => ?_⟩, Nat.le_refl _, r⟩
  cases e
  match j, hu with
  | 0, hu => simp at hu; subst hu; simpa [Addr.add] using h.cell 0
  | 1, hu => simp at hu; subst hu; simpa [Addr.add] using h.cell 1
theorem syp_nil (w : World) : SY w none 0 0 [] := ⟨⟨rfl, fun _ => ⟨rfl, rfl⟩, fun ad e => by cases e⟩, Nat.le_refl _, fun x hx => by cases hx⟩
theorem sbp_1 {w : World} {g : Nat} {t : TypeId} {x : Bool} (h : IsB w g t #[.bool x]) : SB w (some ⟨g, 0, none⟩) 1 1 [x] := by
  refine ⟨rfl, (fun e => by cases e), Nat.le_refl _, fun ad e j hj => ?_⟩
  cases e
  obtain rfl : j = 0 := by omega
  simpa [Addr.add] using h.cell 0
theorem sup_1 {w : World} {g : Nat} {t : TypeId} {x : Int} (h : IsB w g t #[.int .u32 x]) (r : ∀ z ∈ [x], 0 ≤ z ∧ z < 4294967296) : SU w (some ⟨g, 0, none⟩) 1 1 [x] := by
  refine ⟨rfl, (fun e => by cases e), Nat.le_refl _, fun ad e j hj => ?_, r⟩
  cases e
  obtain rfl : j = 0 := by omega
  simpa [Addr.add] using h.cell 0
theorem sup_nil (w : World) : SU w none 0 0 [] := ⟨rfl, fun _ => ⟨rfl, rfl⟩, Nat.le_refl _, (fun ad e => by cases e), fun x hx => by cases hx⟩
theorem srp_1 {w : World} {g : Nat} {t : TypeId} {a : Option Addr} {n c : Nat} {L : List Int} (h : IsB w g t #[.slice a n c]) (h1 : SU w a n c L) : SR w (some ⟨g, 0, none⟩) 1 1 [L] := by
  refine ⟨rfl, (fun e => by cases e), Nat.le_refl _, fun ad e j hj => ?_⟩
  cases e
  obtain rfl : j = 0 := by omega
  exact ⟨a, n, c, by simpa [Addr.add] using h.cell 0, h1⟩
theorem nl_si {w : World} {base : Nat} {a : Option Addr} {n c : Nat} {L : List Int} (h : NL w base (.slice a n c) L) (hn : L.length = n) (hr : ∀ x ∈ L, -9223372036854775808 ≤ x ∧ x ≤ 9223372036854775807) : SI w a n c L := by
  subst hn
  have s := own_slr h
  exact ⟨rfl, s.2.1, own_cap h, fun ad e j hj => s.2.2 ad e j _ (by simp [hj]), hr⟩
theorem put9 {w : World} {b : Nat} {z0 z1 z2 z3 z4 z5 z6 z7 z8 : Value} (h : IsB w b 31 #[z0, z1, z2, z3, z4, z5, z6, z7, z8]) (a0 a1 a2 a3 a4 a5 a6 a7 a8 : Value) : IsB (((((((((w.setCell ⟨b, 0, none⟩ a0).setCell ⟨b, 1, none⟩ a1).setCell ⟨b, 2, none⟩ a2).setCell ⟨b, 3, none⟩ a3).setCell ⟨b, 4, none⟩ a4).setCell ⟨b, 5, none⟩ a5).setCell ⟨b, 6, none⟩ a6).setCell ⟨b, 7, none⟩ a7).setCell ⟨b, 8, none⟩ a8) b 31 #[a0, a1, a2, a3, a4, a5, a6, a7, a8] ∧ w.grownBy (((((((((w.setCell ⟨b, 0, none⟩ a0).setCell ⟨b, 1, none⟩ a1).setCell ⟨b, 2, none⟩ a2).setCell ⟨b, 3, none⟩ a3).setCell ⟨b, 4, none⟩ a4).setCell ⟨b, 5, none⟩ a5).setCell ⟨b, 6, none⟩ a6).setCell ⟨b, 7, none⟩ a7).setCell ⟨b, 8, none⟩ a8) (some b) := by
  have h0 : IsB (w.setCell ⟨b, 0, none⟩ a0) b 31 #[a0, z1, z2, z3, z4, z5, z6, z7, z8] := h.set 0 a0
  have g0 := gb_set w b 0 a0
  have h1 : IsB ((w.setCell ⟨b, 0, none⟩ a0).setCell ⟨b, 1, none⟩ a1) b 31 #[a0, a1, z2, z3, z4, z5, z6, z7, z8] := h0.set 1 a1
  have g1 := gb_set (w.setCell ⟨b, 0, none⟩ a0) b 1 a1
  have h2 : IsB (((w.setCell ⟨b, 0, none⟩ a0).setCell ⟨b, 1, none⟩ a1).setCell ⟨b, 2, none⟩ a2) b 31 #[a0, a1, a2, z3, z4, z5, z6, z7, z8] := h1.set 2 a2
  have g2 := gb_set ((w.setCell ⟨b, 0, none⟩ a0).setCell ⟨b, 1, none⟩ a1) b 2 a2
  have h3 : IsB ((((w.setCell ⟨b, 0, none⟩ a0).setCell ⟨b, 1, none⟩ a1).setCell ⟨b, 2, none⟩ a2).setCell ⟨b, 3, none⟩ a3) b 31 #[a0, a1, a2, a3, z4, z5, z6, z7, z8] := h2.set 3 a3
  have g3 := gb_set (((w.setCell ⟨b, 0, none⟩ a0).setCell ⟨b, 1, none⟩ a1).setCell ⟨b, 2, none⟩ a2) b 3 a3
  have h4 : IsB (((((w.setCell ⟨b, 0, none⟩ a0).setCell ⟨b, 1, none⟩ a1).setCell ⟨b, 2, none⟩ a2).setCell ⟨b, 3, none⟩ a3).setCell ⟨b, 4, none⟩ a4) b 31 #[a0, a1, a2, a3, a4, z5, z6, z7, z8] := h3.set 4 a4
  have g4 := gb_set ((((w.setCell ⟨b, 0, none⟩ a0).setCell ⟨b, 1, none⟩ a1).setCell ⟨b, 2, none⟩ a2).setCell ⟨b, 3, none⟩ a3) b 4 a4
  have h5 : IsB ((((((w.setCell ⟨b, 0, none⟩ a0).setCell ⟨b, 1, none⟩ a1).setCell ⟨b, 2, none⟩ a2).setCell ⟨b, 3, none⟩ a3).setCell ⟨b, 4, none⟩ a4).setCell ⟨b, 5, none⟩ a5) b 31 #[a0, a1, a2, a3, a4, a5, z6, z7, z8] := h4.set 5 a5
  have g5 := gb_set (((((w.setCell ⟨b, 0, none⟩ a0).setCell ⟨b, 1, none⟩ a1).setCell ⟨b, 2, none⟩ a2).setCell ⟨b, 3, none⟩ a3).setCell ⟨b, 4, none⟩ a4) b 5 a5
  have h6 : IsB (((((((w.setCell ⟨b, 0, none⟩ a0).setCell ⟨b, 1, none⟩ a1).setCell ⟨b, 2, none⟩ a2).setCell ⟨b, 3, none⟩ a3).setCell ⟨b, 4, none⟩ a4).setCell ⟨b, 5, none⟩ a5).setCell ⟨b, 6, none⟩ a6) b 31 #[a0, a1, a2, a3, a4, a5, a6, z7, z8] := h5.set 6 a6
  have g6 := gb_set ((((((w.setCell ⟨b, 0, none⟩ a0).setCell ⟨b, 1, none⟩ a1).setCell ⟨b, 2, none⟩ a2).setCell ⟨b, 3, none⟩ a3).setCell ⟨b, 4, none⟩ a4).setCell ⟨b, 5, none⟩ a5) b 6 a6
  have h7 : IsB ((((((((w.setCell ⟨b, 0, none⟩ a0).setCell ⟨b, 1, none⟩ a1).setCell ⟨b, 2, none⟩ a2).setCell ⟨b, 3, none⟩ a3).setCell ⟨b, 4, none⟩ a4).setCell ⟨b, 5, none⟩ a5).setCell ⟨b, 6, none⟩ a6).setCell ⟨b, 7, none⟩ a7) b 31 #[a0, a1, a2, a3, a4, a5, a6, a7, z8] := h6.set 7 a7
  have g7 := gb_set (((((((w.setCell ⟨b, 0, none⟩ a0).setCell ⟨b, 1, none⟩ a1).setCell ⟨b, 2, none⟩ a2).setCell ⟨b, 3, none⟩ a3).setCell ⟨b, 4, none⟩ a4).setCell ⟨b, 5, none⟩ a5).setCell ⟨b, 6, none⟩ a6) b 7 a7
  have h8 : IsB (((((((((w.setCell ⟨b, 0, none⟩ a0).setCell ⟨b, 1, none⟩ a1).setCell ⟨b, 2, none⟩ a2).setCell ⟨b, 3, none⟩ a3).setCell ⟨b, 4, none⟩ a4).setCell ⟨b, 5, none⟩ a5).setCell ⟨b, 6, none⟩ a6).setCell ⟨b, 7, none⟩ a7).setCell ⟨b, 8, none⟩ a8) b 31 #[a0, a1, a2, a3, a4, a5, a6, a7, a8] := h7.set 8 a8
  have g8 := gb_set ((((((((w.setCell ⟨b, 0, none⟩ a0).setCell ⟨b, 1, none⟩ a1).setCell ⟨b, 2, none⟩ a2).setCell ⟨b, 3, none⟩ a3).setCell ⟨b, 4, none⟩ a4).setCell ⟨b, 5, none⟩ a5).setCell ⟨b, 6, none⟩ a6).setCell ⟨b, 7, none⟩ a7) b 8 a8
  exact ⟨h8, (gb_trans (gb_trans (gb_trans (gb_trans (gb_trans (gb_trans (gb_trans (gb_trans g0 g1) g2) g3) g4) g5) g6) g7) g8)⟩
set_option maxRecDepth 100000 in
set_option maxHeartbeats 8000000 in
theorem example_any (w : World) : Calls Try.prog 44 #[] w (fun e w' => ∃ ha sa, e = .returned (.agg #[.string { data := #[] }, .slice ha 1 1, .slice none 0 0, .slice none 0 0, .slice none 0 0, .slice none 0 0, .slice sa 2 2, .slice none 0 0, .slice none 0 0]) ∧ SH w' ha 1 1 hX ∧ SPs w' sa 2 2 sX ∧ w.grownBy w' none) := by
  have G1 := Lib.hid (gb_alloc w (.cells #[.string { data := #[] }, .slice none 0 0, .slice none 0 0, .slice none 0 0, .slice none 0 0, .slice none 0 0, .slice none 0 0, .slice none 0 0, .slice none 0 0] 31) none)
  have A0 := IsB.new w 31 #[.string { data := #[] }, .slice none 0 0, .slice none 0 0, .slice none 0 0, .slice none 0 0, .slice none 0 0, .slice none 0 0, .slice none 0 0, .slice none 0 0]
  replace A0 := Lib.hid A0
  go_enter Try.func44, Try.ntmps44
  go_upto_region 1 with fail
  generalize w.alloc (.cells #[.string { data := #[] }, .slice none 0 0, .slice none 0 0, .slice none 0 0, .slice none 0 0, .slice none 0 0, .slice none 0 0, .slice none 0 0, .slice none 0 0] 31) = w1 at *
  obtain ⟨bx, hbx⟩ : ∃ b, b = w.heap.size := ⟨_, rfl⟩
  have Lbx := Lib.hid (show w.heap.size ≤ bx by rw [hbx]; exact Nat.le_refl _)
  rw [← hbx] at A0 ⊢
  clear hbx
  have G2 := Lib.hid (gb_trans (gb_trans (gb_alloc w1 (.cells #[.string { data := #[97] }, .int .i64 8] 94) none) (gb_alloc _ (.cells #[.string { data := #[104] }, .slice (some ⟨w1.heap.size, 0, none⟩) 1 1] 66) none)) (gb_alloc _ (.cells #[.string { data := #[] }, .slice (some ⟨w1.heap.size + 1, 0, none⟩) 1 1, .slice none 0 0, .slice none 0 0, .slice none 0 0, .slice none 0 0, .slice none 0 0, .slice none 0 0, .slice none 0 0] 31) none))
  have B0 := ((IsB.new w1 94 #[.string { data := #[97] }, .int .i64 8]).alloc (.cells #[.string { data := #[104] }, .slice (some ⟨w1.heap.size, 0, none⟩) 1 1] 66)).alloc (.cells #[.string { data := #[] }, .slice (some ⟨w1.heap.size + 1, 0, none⟩) 1 1, .slice none 0 0, .slice none 0 0, .slice none 0 0, .slice none 0 0, .slice none 0 0, .slice none 0 0, .slice none 0 0] 31)
  have B1 := (IsB.new (w1.alloc (.cells #[.string { data := #[97] }, .int .i64 8] 94)) 66 #[.string { data := #[104] }, .slice (some ⟨w1.heap.size, 0, none⟩) 1 1]).alloc (.cells #[.string { data := #[] }, .slice (some ⟨w1.heap.size + 1, 0, none⟩) 1 1, .slice none 0 0, .slice none 0 0, .slice none 0 0, .slice none 0 0, .slice none 0 0, .slice none 0 0, .slice none 0 0] 31)
  have B2 := IsB.new ((w1.alloc (.cells #[.string { data := #[97] }, .int .i64 8] 94)).alloc (.cells #[.string { data := #[104] }, .slice (some ⟨w1.heap.size, 0, none⟩) 1 1] 66)) 31 #[.string { data := #[] }, .slice (some ⟨w1.heap.size + 1, 0, none⟩) 1 1, .slice none 0 0, .slice none 0 0, .slice none 0 0, .slice none 0 0, .slice none 0 0, .slice none 0 0, .slice none 0 0]
  simp only [sz_al] at B1 B2
  replace B0 := Lib.hid B0
  replace B1 := Lib.hid B1
  replace B2 := Lib.hid B2
  go_upto_region 2 with fail
  generalize ((w1.alloc (.cells #[.string { data := #[97] }, .int .i64 8] 94)).alloc (.cells #[.string { data := #[104] }, .slice (some ⟨w1.heap.size, 0, none⟩) 1 1] 66)).alloc (.cells #[.string { data := #[] }, .slice (some ⟨w1.heap.size + 1, 0, none⟩) 1 1, .slice none 0 0, .slice none 0 0, .slice none 0 0, .slice none 0 0, .slice none 0 0, .slice none 0 0, .slice none 0 0] 31) = w2 at *
  obtain ⟨b_y, hb_y⟩ : ∃ b, b = w1.heap.size := ⟨_, rfl⟩
  have Lb_y := Lib.hid (show w1.heap.size ≤ b_y by rw [hb_y]; exact Nat.le_refl _)
  rw [← hb_y] at B0 B1 B2 ⊢
  clear hb_y
  have G3 := Lib.hid (gb_trans (gb_trans (gb_alloc w2 (.cells #[.int .i64 0] 3) none) (gb_alloc _ (.cells #[.int .u32 1, .int .u32 255, .int .i64 1] 114) none)) (gb_alloc _ (.cells #[.string { data := #[115] }, .slice (some ⟨w2.heap.size, 0, none⟩) 1 1, .bool true, .int .i64 0, .int .i64 0, .slice (some ⟨w2.heap.size + 1, 0, none⟩) 1 1, .int .i64 (-2), .string { data := #[116] }, .slice none 0 0, .bool false, .int .i64 0, .int .i64 0, .slice none 0 0, .int .i64 (-1)] 55) none))
  have C0 := ((IsB.new w2 3 #[.int .i64 0]).alloc (.cells #[.int .u32 1, .int .u32 255, .int .i64 1] 114)).alloc (.cells #[.string { data := #[115] }, .slice (some ⟨w2.heap.size, 0, none⟩) 1 1, .bool true, .int .i64 0, .int .i64 0, .slice (some ⟨w2.heap.size + 1, 0, none⟩) 1 1, .int .i64 (-2), .string { data := #[116] }, .slice none 0 0, .bool false, .int .i64 0, .int .i64 0, .slice none 0 0, .int .i64 (-1)] 55)
  have C1 := (IsB.new (w2.alloc (.cells #[.int .i64 0] 3)) 114 #[.int .u32 1, .int .u32 255, .int .i64 1]).alloc (.cells #[.string { data := #[115] }, .slice (some ⟨w2.heap.size, 0, none⟩) 1 1, .bool true, .int .i64 0, .int .i64 0, .slice (some ⟨w2.heap.size + 1, 0, none⟩) 1 1, .int .i64 (-2), .string { data := #[116] }, .slice none 0 0, .bool false, .int .i64 0, .int .i64 0, .slice none 0 0, .int .i64 (-1)] 55)
  have C2 := IsB.new ((w2.alloc (.cells #[.int .i64 0] 3)).alloc (.cells #[.int .u32 1, .int .u32 255, .int .i64 1] 114)) 55 #[.string { data := #[115] }, .slice (some ⟨w2.heap.size, 0, none⟩) 1 1, .bool true, .int .i64 0, .int .i64 0, .slice (some ⟨w2.heap.size + 1, 0, none⟩) 1 1, .int .i64 (-2), .string { data := #[116] }, .slice none 0 0, .bool false, .int .i64 0, .int .i64 0, .slice none 0 0, .int .i64 (-1)]
  simp only [sz_al] at C1 C2
  replace C0 := Lib.hid C0
  replace C1 := Lib.hid C1
  replace C2 := Lib.hid C2
  have d6 := (B2.out.keep0 G3.out).cell 6
  have f6 := (B2.out.keep0 G3.out).free 6
  dsimp at d6
  go_upto_region 3 with fail
  generalize ((w2.alloc (.cells #[.int .i64 0] 3)).alloc (.cells #[.int .u32 1, .int .u32 255, .int .i64 1] 114)).alloc (.cells #[.string { data := #[115] }, .slice (some ⟨w2.heap.size, 0, none⟩) 1 1, .bool true, .int .i64 0, .int .i64 0, .slice (some ⟨w2.heap.size + 1, 0, none⟩) 1 1, .int .i64 (-2), .string { data := #[116] }, .slice none 0 0, .bool false, .int .i64 0, .int .i64 0, .slice none 0 0, .int .i64 (-1)] 55) = w3 at *
  obtain ⟨bz, hbz⟩ : ∃ b, b = w2.heap.size := ⟨_, rfl⟩
  have Lbz := Lib.hid (show w2.heap.size ≤ bz by rw [hbz]; exact Nat.le_refl _)
  rw [← hbz] at C0 C1 C2 ⊢
  clear hbz
  have s4 := gb_set w3 (b_y + 1 + 1) 6 (.slice (some ⟨bz + 1 + 1, 0, none⟩) 2 2)
  have m3 := B2.out.keep0 G3.out
  have M4 := Lib.hid (show IsB (w3.setCell ⟨b_y + 1 + 1, 6, none⟩ (.slice (some ⟨bz + 1 + 1, 0, none⟩) 2 2)) (b_y + 1 + 1) 31 #[.string { data := #[] }, .slice (some ⟨b_y + 1, 0, none⟩) 1 1, .slice none 0 0, .slice none 0 0, .slice none 0 0, .slice none 0 0, .slice (some ⟨bz + 1 + 1, 0, none⟩) 2 2, .slice none 0 0, .slice none 0 0] from m3.set 6 (.slice (some ⟨bz + 1 + 1, 0, none⟩) 2 2))
  have Y0 := Lib.hid (((B0.out.keep0 G3.out).keepS s4 m3 (by decide)))
  have Y1 := Lib.hid (((B1.out.keep0 G3.out).keepS s4 m3 (by decide)))
  have Z0 := Lib.hid (C0.out.keepS s4 m3 (by decide))
  have Z1 := Lib.hid (C1.out.keepS s4 m3 (by decide))
  have Z2 := Lib.hid (C2.out.keepS s4 m3 (by decide))
  have R0 := Lib.hid (((A0.out.keep0 G2.out).keep0 G3.out).keep s4 (by intro e; injection e with e; have := A0.out.lt; have := Lb_y.out; omega))
  have G4 := Lib.hid (gb_new (gb_trans (gb_any (gb_trans G1.out (gb_trans G2.out G3.out))) s4) (by have := G1.out.size; have := Lb_y.out; omega))
  clear s4 m3 A0 B0 B1 B2 C0 C1 C2 G2 G3 d6 f6
  generalize w3.setCell ⟨b_y + 1 + 1, 6, none⟩ (.slice (some ⟨bz + 1 + 1, 0, none⟩) 2 2) = w4 at *
  have P9 := Lib.hid (put9 R0.out (.string { data := #[] }) (.slice (some ⟨b_y + 1, 0, none⟩) 1 1) (.slice none 0 0) (.slice none 0 0) (.slice none 0 0) (.slice none 0 0) (.slice (some ⟨bz + 1 + 1, 0, none⟩) 2 2) (.slice none 0 0) (.slice none 0 0))
  have W0 := Lib.hid (Y0.out.keepS P9.out.2 R0.out (by decide))
  have W1 := Lib.hid (Y1.out.keepS P9.out.2 R0.out (by decide))
  have V0 := Lib.hid (Z0.out.keepS P9.out.2 R0.out (by decide))
  have V1 := Lib.hid (Z1.out.keepS P9.out.2 R0.out (by decide))
  have V2 := Lib.hid (Z2.out.keepS P9.out.2 R0.out (by decide))
  have G5 := Lib.hid (gb_new (gb_trans (gb_any G4.out) P9.out.2) Lbx.out)
  have x0 := (M4.out.keep0 (gb_refl _ _)).cell 0
  have x1 := (M4.out.keep0 (gb_refl _ _)).cell 1
  have x2 := (M4.out.keep0 (gb_refl _ _)).cell 2
  have x3 := (M4.out.keep0 (gb_refl _ _)).cell 3
  have x4 := (M4.out.keep0 (gb_refl _ _)).cell 4
  have x5 := (M4.out.keep0 (gb_refl _ _)).cell 5
  have x6 := (M4.out.keep0 (gb_refl _ _)).cell 6
  have x7 := (M4.out.keep0 (gb_refl _ _)).cell 7
  have x8 := (M4.out.keep0 (gb_refl _ _)).cell 8
  dsimp at x0 x1 x2 x3 x4 x5 x6 x7 x8
  have y0 := (R0.out.keep0 (gb_refl _ _)).cell 0
  have y1 := (R0.out.keep0 (gb_refl _ _)).cell 1
  have y2 := (R0.out.keep0 (gb_refl _ _)).cell 2
  have y3 := (R0.out.keep0 (gb_refl _ _)).cell 3
  have y4 := (R0.out.keep0 (gb_refl _ _)).cell 4
  have y5 := (R0.out.keep0 (gb_refl _ _)).cell 5
  have y6 := (R0.out.keep0 (gb_refl _ _)).cell 6
  have y7 := (R0.out.keep0 (gb_refl _ _)).cell 7
  have y8 := (R0.out.keep0 (gb_refl _ _)).cell 8
  dsimp at y0 y1 y2 y3 y4 y5 y6 y7 y8
  have f0 := R0.out.free 0
  have f1 := R0.out.free 1
  have f2 := R0.out.free 2
  have f3 := R0.out.free 3
  have f4 := R0.out.free 4
  have f5 := R0.out.free 5
  have f6 := R0.out.free 6
  have f7 := R0.out.free 7
  have f8 := R0.out.free 8
  go_wp2
  have k0 := P9.out.1.cell 0
  have k1 := P9.out.1.cell 1
  have k2 := P9.out.1.cell 2
  have k3 := P9.out.1.cell 3
  have k4 := P9.out.1.cell 4
  have k5 := P9.out.1.cell 5
  have k6 := P9.out.1.cell 6
  have k7 := P9.out.1.cell 7
  have k8 := P9.out.1.cell 8
  dsimp at k0 k1 k2 k3 k4 k5 k6 k7 k8
  generalize (((((((((w4.setCell ⟨bx, 0, none⟩ (.string { data := #[] })).setCell ⟨bx, 1, none⟩ (.slice (some ⟨b_y + 1, 0, none⟩) 1 1)).setCell ⟨bx, 2, none⟩ (.slice none 0 0)).setCell ⟨bx, 3, none⟩ (.slice none 0 0)).setCell ⟨bx, 4, none⟩ (.slice none 0 0)).setCell ⟨bx, 5, none⟩ (.slice none 0 0)).setCell ⟨bx, 6, none⟩ (.slice (some ⟨bz + 1 + 1, 0, none⟩) 2 2)).setCell ⟨bx, 7, none⟩ (.slice none 0 0)).setCell ⟨bx, 8, none⟩ (.slice none 0 0)) = w5 at *
  refine bodyPost_ret (v := .agg #[.string { data := #[] }, .slice (some ⟨b_y + 1, 0, none⟩) 1 1, .slice none 0 0, .slice none 0 0, .slice none 0 0, .slice none 0 0, .slice (some ⟨bz + 1 + 1, 0, none⟩) 2 2, .slice none 0 0, .slice none 0 0]) (by rw [results_cell1 rfl]; go_simp; try rfl) rfl ⟨_, _, rfl, shp_1 W1.out (sfp_1 W0.out), spsp_2 V2.out (sip_1 V0.out (by decide)) (scap_1 V1.out (by decide) (by decide)), G5.out⟩
set_option maxRecDepth 100000 in
set_option maxHeartbeats 8000000 in
theorem works18_any (w : World) : Calls Try.prog 13 #[] w (RetV (.bool true) w) := by
  have PP := Lib.hid (fun (W : World) (ha sa : Option Addr) (h1 : SH W ha 1 1 hX) (h2 : SPs W sa 2 2 sX) (da : Option Addr) (dn dc : Nat) (bs : List Int) (hD : SY W da dn dc bs) (hn : dn ≤ 512) (res : EL × List Int × Int) (hr : res = pRun hX [] sX bs (inE 0 true dn)) => pparse_any W ⟨#[]⟩ none none none none none ha none sa 0 0 0 0 0 0 0 0 0 0 1 1 0 0 2 2 hX [] sX h1 (sf_nil W) h2 nzX hzX (by decide) (by decide) da dn dc bs hD (by omega) 0 0 0 pkX true (by simp [hdsX]) res hr)
  have PS := Lib.hid (fun (W : World) (ha sa : Option Addr) (h1 : SH W ha 1 1 hX) (h2 : SPs W sa 2 2 sX) (da : Option Addr) (dn dc : Nat) (bs : List Int) (hD : SY W da dn dc bs) (hn : dn ≤ 512) (res : EL × List Int × Int) (hr : res = pRun hX [] sX bs (inE 0 true dn)) => pstates_any W ⟨#[]⟩ none none none none none ha none sa 0 0 0 0 0 0 0 0 0 0 1 1 0 0 2 2 hX [] sX h1 (sf_nil W) h2 nzX hzX (by decide) (by decide) da dn dc bs hD (by omega) 0 0 0 pkX true (by simp [hdsX]) res hr)
  have PC := Lib.hid (fun (W : World) (ha sa : Option Addr) (h1 : SH W ha 1 1 hX) (h2 : SPs W sa 2 2 sX) => pcheck_any W (.string { data := #[] }) (.slice none 0 0) (.slice none 0 0) (.slice none 0 0) (.slice none 0 0) (.slice none 0 0) ha none sa 1 1 0 0 2 2 hX [] sX h1 (sf_nil W) h2 nzX 0 0 0 pkX)
  have PN := Lib.hid (fun (W : World) => pcheck_any W (.string { data := #[] }) (.slice none 0 0) (.slice none 0 0) (.slice none 0 0) (.slice none 0 0) (.slice none 0 0) none none none 0 0 0 0 0 0 [] [] [] ⟨rfl, fun _ => ⟨rfl, rfl⟩, Nat.le_refl _, fun ad e => by cases e⟩ (sf_nil W) (sl_nil W) (fun i => show (psz.nm).size ≤ 9223372036854775807 by decide) (-1) (-1) 8 pkNo)
  unfold RetV at PC PN
  go_enter Try.func13, Try.ntmps13
  go_upto_region 2 with (go_at_call 44; refine (example_any w).mono ?_; rintro e9 w1 ⟨ha, sa, rfl, sh, sp, g⟩; have SH1 := Lib.hid sh; have SP1 := Lib.hid sp; have G1 := Lib.hid g; clear sh sp g)
  have B1 := Lib.hid (IsB.new w1 31 #[.string { data := #[] }, .slice ha 1 1, .slice none 0 0, .slice none 0 0, .slice none 0 0, .slice none 0 0, .slice sa 2 2, .slice none 0 0, .slice none 0 0])
  have GA := Lib.hid (gb_alloc w1 (.cells #[.string { data := #[] }, .slice ha 1 1, .slice none 0 0, .slice none 0 0, .slice none 0 0, .slice none 0 0, .slice sa 2 2, .slice none 0 0, .slice none 0 0] 31) none)
  replace SH1 := Lib.hid (SH1.out.keep0 GA.out)
  replace SP1 := Lib.hid (SP1.out.keep0SPs GA.out)
  replace G1 := Lib.hid (gb_trans G1.out GA.out)
  clear GA
  generalize w1.alloc (.cells #[.string { data := #[] }, .slice ha 1 1, .slice none 0 0, .slice none 0 0, .slice none 0 0, .slice none 0 0, .slice sa 2 2, .slice none 0 0, .slice none 0 0] 31) = w2 at *
  generalize w1.heap.size = b1 at *
  have GA0 := Lib.hid (gb_refl w2 none)
  have DA := Lib.hid (IsB.new w2 5 #[.int .u8 1, .int .u8 9])
  have GDA := Lib.hid (gb_alloc w2 (.cells #[.int .u8 1, .int .u8 9] 5) none)
  have c0 := (B1.out.keep0 (gb_refl _ _)).cell 0
  have c1 := (B1.out.keep0 (gb_refl _ _)).cell 1
  have c2 := (B1.out.keep0 (gb_refl _ _)).cell 2
  have c3 := (B1.out.keep0 (gb_refl _ _)).cell 3
  have c4 := (B1.out.keep0 (gb_refl _ _)).cell 4
  have c5 := (B1.out.keep0 (gb_refl _ _)).cell 5
  have c6 := (B1.out.keep0 (gb_refl _ _)).cell 6
  have c7 := (B1.out.keep0 (gb_refl _ _)).cell 7
  have c8 := (B1.out.keep0 (gb_refl _ _)).cell 8
  dsimp at c0 c1 c2 c3 c4 c5 c6 c7 c8
  go_upto_region 3 with (go_at_call 16; refine (PP.out _ ha sa (SH1.out.keep0 (gb_trans GA0.out GDA.out)) (SP1.out.keep0SPs (gb_trans GA0.out GDA.out)) (some ⟨w2.heap.size, 0, none⟩) 2 2 _ (syp_2 DA.out (by decide)) (by decide) _ run19).mono ?_; rintro e9 w30 ⟨X1, VsA, rfl, oe, g⟩; have OXA := Lib.hid oe; have GPA := Lib.hid (gb_trans GDA.out g); clear oe g)
  clear c0 c1 c2 c3 c4 c5 c6 c7 c8
  have EA := Lib.hid (IsB.new w30 42 #[.slice X1.va X1.vn X1.vc, .slice X1.fa X1.fn X1.fc, .slice X1.ta X1.tn X1.tc, .slice X1.pa X1.pn X1.pc])
  have ga := gb_alloc w30 (.cells #[.slice X1.va X1.vn X1.vc, .slice X1.fa X1.fn X1.fc, .slice X1.ta X1.tn X1.tc, .slice X1.pa X1.pn X1.pc] 42) none
  have GQA := Lib.hid (gb_trans GPA.out ga)
  have OYA := Lib.hid (OXA.out.keep0 ga)
  clear ga OXA GPA GDA
  generalize w30.alloc (.cells #[.slice X1.va X1.vn X1.vc, .slice X1.fa X1.fn X1.fc, .slice X1.ta X1.tn X1.tc, .slice X1.pa X1.pn X1.pc] 42) = w3 at *
  generalize w30.heap.size = beA at *
  replace B1 := Lib.hid (B1.out.keep0 GQA.out)
  have GB0 := Lib.hid GQA.out
  have DB := Lib.hid (IsB.new w3 5 #[.int .u8 2])
  have GDB := Lib.hid (gb_alloc w3 (.cells #[.int .u8 2] 5) none)
  have c0 := (B1.out.keep0 (gb_refl _ _)).cell 0
  have c1 := (B1.out.keep0 (gb_refl _ _)).cell 1
  have c2 := (B1.out.keep0 (gb_refl _ _)).cell 2
  have c3 := (B1.out.keep0 (gb_refl _ _)).cell 3
  have c4 := (B1.out.keep0 (gb_refl _ _)).cell 4
  have c5 := (B1.out.keep0 (gb_refl _ _)).cell 5
  have c6 := (B1.out.keep0 (gb_refl _ _)).cell 6
  have c7 := (B1.out.keep0 (gb_refl _ _)).cell 7
  have c8 := (B1.out.keep0 (gb_refl _ _)).cell 8
  dsimp at c0 c1 c2 c3 c4 c5 c6 c7 c8
  go_upto_region 4 with (go_at_call 16; refine (PP.out _ ha sa (SH1.out.keep0 (gb_trans GB0.out GDB.out)) (SP1.out.keep0SPs (gb_trans GB0.out GDB.out)) (some ⟨w3.heap.size, 0, none⟩) 1 1 _ (syp_1 DB.out (by decide)) (by decide) _ run2).mono ?_; rintro e9 w40 ⟨X2, VsB, rfl, oe, g⟩; have OXB := Lib.hid oe; have GPB := Lib.hid (gb_trans GDB.out g); clear oe g)
  clear c0 c1 c2 c3 c4 c5 c6 c7 c8
  have EB := Lib.hid (IsB.new w40 42 #[.slice X2.va X2.vn X2.vc, .slice X2.fa X2.fn X2.fc, .slice X2.ta X2.tn X2.tc, .slice X2.pa X2.pn X2.pc])
  have ga := gb_alloc w40 (.cells #[.slice X2.va X2.vn X2.vc, .slice X2.fa X2.fn X2.fc, .slice X2.ta X2.tn X2.tc, .slice X2.pa X2.pn X2.pc] 42) none
  have GQB := Lib.hid (gb_trans GPB.out ga)
  have OYB := Lib.hid (OXB.out.keep0 ga)
  clear ga OXB GPB GDB
  generalize w40.alloc (.cells #[.slice X2.va X2.vn X2.vc, .slice X2.fa X2.fn X2.fc, .slice X2.ta X2.tn X2.tc, .slice X2.pa X2.pn X2.pc] 42) = w4 at *
  generalize w40.heap.size = beB at *
  replace B1 := Lib.hid (B1.out.keep0 GQB.out)
  have GC0 := Lib.hid (gb_trans GQA.out GQB.out)
  have GDC := Lib.hid (gb_refl w4 none)
  have c0 := (B1.out.keep0 (gb_refl _ _)).cell 0
  have c1 := (B1.out.keep0 (gb_refl _ _)).cell 1
  have c2 := (B1.out.keep0 (gb_refl _ _)).cell 2
  have c3 := (B1.out.keep0 (gb_refl _ _)).cell 3
  have c4 := (B1.out.keep0 (gb_refl _ _)).cell 4
  have c5 := (B1.out.keep0 (gb_refl _ _)).cell 5
  have c6 := (B1.out.keep0 (gb_refl _ _)).cell 6
  have c7 := (B1.out.keep0 (gb_refl _ _)).cell 7
  have c8 := (B1.out.keep0 (gb_refl _ _)).cell 8
  dsimp at c0 c1 c2 c3 c4 c5 c6 c7 c8
  go_upto_region 5 with (go_at_call 16; refine (PP.out _ ha sa (SH1.out.keep0 (gb_trans GC0.out GDC.out)) (SP1.out.keep0SPs (gb_trans GC0.out GDC.out)) none 0 0 _ (syp_nil _) (by decide) _ run0).mono ?_; rintro e9 w50 ⟨X3, VsC, rfl, oe, g⟩; have OXC := Lib.hid oe; have GPC := Lib.hid (gb_trans GDC.out g); clear oe g)
  clear c0 c1 c2 c3 c4 c5 c6 c7 c8
  have EC := Lib.hid (IsB.new w50 42 #[.slice X3.va X3.vn X3.vc, .slice X3.fa X3.fn X3.fc, .slice X3.ta X3.tn X3.tc, .slice X3.pa X3.pn X3.pc])
  have ga := gb_alloc w50 (.cells #[.slice X3.va X3.vn X3.vc, .slice X3.fa X3.fn X3.fc, .slice X3.ta X3.tn X3.tc, .slice X3.pa X3.pn X3.pc] 42) none
  have GQC := Lib.hid (gb_trans GPC.out ga)
  have OYC := Lib.hid (OXC.out.keep0 ga)
  clear ga OXC GPC GDC
  generalize w50.alloc (.cells #[.slice X3.va X3.vn X3.vc, .slice X3.fa X3.fn X3.fc, .slice X3.ta X3.tn X3.tc, .slice X3.pa X3.pn X3.pc] 42) = w5 at *
  generalize w50.heap.size = beC at *
  replace B1 := Lib.hid (B1.out.keep0 GQC.out)
  have GD0 := Lib.hid (gb_trans GC0.out GQC.out)
  have c0 := (B1.out.keep0 (gb_refl _ _)).cell 0
  have c1 := (B1.out.keep0 (gb_refl _ _)).cell 1
  have c2 := (B1.out.keep0 (gb_refl _ _)).cell 2
  have c3 := (B1.out.keep0 (gb_refl _ _)).cell 3
  have c4 := (B1.out.keep0 (gb_refl _ _)).cell 4
  have c5 := (B1.out.keep0 (gb_refl _ _)).cell 5
  have c6 := (B1.out.keep0 (gb_refl _ _)).cell 6
  have c7 := (B1.out.keep0 (gb_refl _ _)).cell 7
  have c8 := (B1.out.keep0 (gb_refl _ _)).cell 8
  dsimp at c0 c1 c2 c3 c4 c5 c6 c7 c8
  go_upto_region 6 with (go_at_call 14; refine (PC.out w5 ha sa (SH1.out.keep0 GD0.out) (SP1.out.keep0SPs GD0.out)).mono ?_; rintro e9 w6 ⟨rfl, g⟩; have G6 := Lib.hid g; clear g)
  clear c0 c1 c2 c3 c4 c5 c6 c7 c8
  go_upto_region 7 with (go_at_call 14; refine (PN.out w6).mono ?_; rintro e9 w7 ⟨rfl, g⟩; have G7 := Lib.hid g; clear g)
  have G57 := Lib.hid (gb_trans G6.out G7.out)
  have G27 := Lib.hid (gb_trans GD0.out G57.out)
  have OEA := Lib.hid (((OYA.out.keep0 GQB.out).keep0 GQC.out).keep0 G57.out)
  have EA := Lib.hid (((EA.out.keep0 GQB.out).keep0 GQC.out).keep0 G57.out)
  have B7 := Lib.hid (B1.out.keep0 G57.out)
  clear B1 EB EC OYA OYB OYC GQA GQB GQC GB0 GC0 G6 G7 G57 DA DB
  have x0 := (EA.out.keep0 (gb_refl _ _)).cell 0
  have x1 := (EA.out.keep0 (gb_refl _ _)).cell 1
  have x2 := (EA.out.keep0 (gb_refl _ _)).cell 2
  have x3 := (EA.out.keep0 (gb_refl _ _)).cell 3
  dsimp at x0 x1 x2 x3
  have GI := Lib.hid (gb_trans (gb_trans (gb_trans (gb_alloc w7 (.cells #[.bool true] 4) none) (gb_alloc _ (.cells #[.int .u32 1] 58) none)) (gb_alloc _ (.cells #[.slice (some ⟨w7.heap.size + 1, 0, none⟩) 1 1] 40) none)) (gb_alloc _ (.cells #[.int .u8 9] 5) none))
  have I0 := (((IsB.new w7 4 #[.bool true]).alloc (.cells #[.int .u32 1] 58)).alloc (.cells #[.slice (some ⟨w7.heap.size + 1, 0, none⟩) 1 1] 40)).alloc (.cells #[.int .u8 9] 5)
  have I1 := ((IsB.new (w7.alloc (.cells #[.bool true] 4)) 58 #[.int .u32 1]).alloc (.cells #[.slice (some ⟨w7.heap.size + 1, 0, none⟩) 1 1] 40)).alloc (.cells #[.int .u8 9] 5)
  have I2 := (IsB.new ((w7.alloc (.cells #[.bool true] 4)).alloc (.cells #[.int .u32 1] 58)) 40 #[.slice (some ⟨w7.heap.size + 1, 0, none⟩) 1 1]).alloc (.cells #[.int .u8 9] 5)
  have I3 := IsB.new (((w7.alloc (.cells #[.bool true] 4)).alloc (.cells #[.int .u32 1] 58)).alloc (.cells #[.slice (some ⟨w7.heap.size + 1, 0, none⟩) 1 1] 40)) 5 #[.int .u8 9]
  simp only [sz_al] at I1 I2 I3
  replace I0 := Lib.hid I0
  replace I1 := Lib.hid I1
  replace I2 := Lib.hid I2
  replace I3 := Lib.hid I3
  go_wp2_with fail
  generalize (((w7.alloc (.cells #[.bool true] 4)).alloc (.cells #[.int .u32 1] 58)).alloc (.cells #[.slice (some ⟨w7.heap.size + 1, 0, none⟩) 1 1] 40)).alloc (.cells #[.int .u8 9] 5) = w8 at *
  obtain ⟨bi, hbi⟩ : ∃ b, b = w7.heap.size := ⟨_, rfl⟩
  have Lbi := Lib.hid (show w7.heap.size ≤ bi by rw [hbi]; exact Nat.le_refl _)
  rw [← hbi] at I0 I1 I2 I3 ⊢
  clear hbi
  clear x0 x1 x2 x3
  have v1 := OEA.out.vl
  have f1 := OEA.out.fl
  have t1 := OEA.out.tl
  have p1 := OEA.out.pl
  have KQ := requal_any w8 X1 ⟨some ⟨bi, 0, none⟩, some ⟨bi + 1 + 1, 0, none⟩, none, some ⟨bi + 1 + 1 + 1, 0, none⟩, 1, 1, 1, 1, 0, 0, 1, 1⟩ ⟨[true], [[1]], [], [9]⟩ ⟨[true], [[1]], [], [9]⟩ (OEA.out.er.keep0 GI.out) ⟨sbp_1 I0.out, srp_1 I2.out (sup_1 I1.out (by decide)), sup_nil _, syp_1 I3.out (by decide)⟩ ⟨by rw [← v1]; decide, by rw [← f1]; decide, by rw [← t1]; decide, by rw [← p1]; decide, fun j => by match j with
    | 0 => decide
    | j + 1 => simp⟩ ⟨show (1 : Nat) ≤ 100000 by decide, show (1 : Nat) ≤ 100000 by decide, show (0 : Nat) ≤ 100000 by decide, show (1 : Nat) ≤ 100000 by decide, fun j => by match j with
    | 0 => decide
    | j + 1 => simp⟩ true (by simp [sameE])
  clear v1 f1 t1 p1
  unfold RetV at KQ
  dsimp only at KQ
  replace KQ := Lib.hid KQ
  refine KQ.out.mono ?_
  rintro e9 w9 ⟨rfl, g⟩
  have G79 := Lib.hid (gb_trans GI.out g)
  replace B7 := Lib.hid (B7.out.keep0 G79.out)
  clear g KQ I0 I1 I2 I3 GI EA OEA
  have J0 := Lib.hid (IsB.new w9 5 #[.int .u8 1, .int .u8 9])
  have GJ := Lib.hid (gb_alloc w9 (.cells #[.int .u8 1, .int .u8 9] 5) none)
  have c0 := (B7.out.keep0 (gb_refl _ _)).cell 0
  have c1 := (B7.out.keep0 (gb_refl _ _)).cell 1
  have c2 := (B7.out.keep0 (gb_refl _ _)).cell 2
  have c3 := (B7.out.keep0 (gb_refl _ _)).cell 3
  have c4 := (B7.out.keep0 (gb_refl _ _)).cell 4
  have c5 := (B7.out.keep0 (gb_refl _ _)).cell 5
  have c6 := (B7.out.keep0 (gb_refl _ _)).cell 6
  have c7 := (B7.out.keep0 (gb_refl _ _)).cell 7
  have c8 := (B7.out.keep0 (gb_refl _ _)).cell 8
  dsimp at c0 c1 c2 c3 c4 c5 c6 c7 c8
  go_wp2_with fail
  refine (PS.out _ ha sa (SH1.out.keep0 (gb_trans (gb_trans G27.out G79.out) GJ.out)) (SP1.out.keep0SPs (gb_trans (gb_trans G27.out G79.out) GJ.out)) _ 2 2 _ (syp_2 J0.out (by decide)) (by decide) _ run19).mono ?_
  rintro e9 w10 ⟨E, rfl, nl, g⟩
  have G10 := Lib.hid (gb_trans G79.out (gb_trans GJ.out g))
  obtain ⟨ea, ec, rfl⟩ := own_shape nl
  have SE := Lib.hid (nl_si nl rfl (by decide))
  clear nl g J0 GJ c0 c1 c2 c3 c4 c5 c6 c7 c8
  have L0 := Lib.hid (IsB.new w10 3 #[.int .i64 0, .int .i64 1])
  have GL := Lib.hid (gb_alloc w10 (.cells #[.int .i64 0, .int .i64 1] 3) none)
  go_wp2_with fail
  refine (eqints_any _ ea _ 2 ec 2 2 [0, 1] [0, 1] (SE.out.keep0 GL.out) (sip_2 L0.out (by decide)) (by decide) true (by simp)).mono ?_
  rintro e9 w11 ⟨rfl, g⟩
  have GE9 := Lib.hid (gb_trans (gb_trans (gb_trans G1.out G27.out) G10.out) (gb_trans GL.out g))
  clear g
  go_wp2
  go_ret
  exact ⟨rfl, GE9.out⟩
end Go.Proofs.Ytjhknmklejkknaa
end
