/- A program in memory: what its lists read as; no condition. -/
import Derived.Test.YtjhknmklejkknaaGxA
namespace Go.Proofs.Ytjhknmklejkknaa
open Go.RowKit
set_option linter.unusedVariables false
/-- A slice of structs of K cells that reads as a list. -/
structure SL {α : Type} (K : Nat) (z : α) (C : World → Addr → α → Prop) (w : World) (a : Option Addr) (n c : Nat) (L : List α) : Prop where
  len : L.length = n
  nil : a = none → n = 0 ∧ c = 0
  cap : n ≤ c
  cells : ∀ ad, a = some ad → ∀ j, j < n → C w (ad.add (j * K)) (L.getD j z)
theorem SL.some {α : Type} {K : Nat} {z : α} {C : World → Addr → α → Prop} {w : World} {a : Option Addr} {n c : Nat} {L : List α} (h : SL K z C w a n c L) (hn : 0 < n) : ∃ ad, a = some ad := by
  cases a with
  | none => have := (h.nil rfl).1; omega
  | some ad => exact ⟨ad, rfl⟩
theorem SL.keep {α : Type} {K : Nat} {z : α} {C : World → Addr → α → Prop} {w w2 : World} {a : Option Addr} {n c : Nat} {L : List α} (h : SL K z C w a n c L) (k : ∀ b x, C w b x → C w2 b x) : SL K z C w2 a n c L :=
  ⟨h.len, h.nil, h.cap, fun ad e j hj => k _ _ (h.cells ad e j hj)⟩
theorem sl_nil {α : Type} {K : Nat} {z : α} {C : World → Addr → α → Prop} (w : World) : SL K z C w none 0 0 [] := ⟨rfl, fun _ => ⟨rfl, rfl⟩, Nat.le_refl _, fun ad e => by cases e⟩
/-- A slice of numbers. -/
structure SI (w : World) (a : Option Addr) (n c : Nat) (L : List Int) : Prop where
  len : L.length = n
  nil : a = none → n = 0 ∧ c = 0
  cap : n ≤ c
  cells : ∀ ad, a = some ad → ∀ j, j < n → w.cell? (ad.add j) = some (.int .i64 (L.getD j 0))
  rng : ∀ x ∈ L, -9223372036854775808 ≤ x ∧ x ≤ 9223372036854775807
theorem SI.keep0 {w w2 : World} {a : Option Addr} {n c : Nat} {L : List Int} (h : SI w a n c L) (k : w.grownBy w2 none) : SI w2 a n c L :=
  ⟨h.len, h.nil, h.cap, fun ad e j hj => k.cell (h.cells ad e j hj) (by simp), h.rng⟩
theorem SI.some {w : World} {a : Option Addr} {n c : Nat} {L : List Int} (h : SI w a n c L) (hn : 0 < n) : ∃ ad, a = some ad := by
  cases a with
  | none => have := (h.nil rfl).1; omega
  | some ad => exact ⟨ad, rfl⟩
theorem si_nil (w : World) : SI w none 0 0 [] := ⟨rfl, fun _ => ⟨rfl, rfl⟩, Nat.le_refl _, (fun ad e => by cases e), fun x hx => by cases hx⟩
theorem SI.at_ {w : World} {a : Option Addr} {n c : Nat} {L : List Int} (h : SI w a n c L) (j : Nat) : -9223372036854775808 ≤ L.getD j 0 ∧ L.getD j 0 ≤ 9223372036854775807 := by
  by_cases hj : j < L.length
  · rw [List.getD_eq_getElem?_getD, List.getElem?_eq_getElem hj]; exact h.rng _ (List.getElem_mem _)
  · rw [List.getD_eq_getElem?_getD, List.getElem?_eq_none (by omega)]; decide
structure TKy where
  h : Int
  f : Int
  k : Int
def tkz : TKy := ⟨0, 0, 0⟩
def CKy (w : World) (b : Addr) (x : TKy) : Prop := w.cell? b = some (.int .i64 x.h) ∧ w.cell? ⟨b.block, b.off + 1, none⟩ = some (.int .i64 x.f) ∧ w.cell? ⟨b.block, b.off + 2, none⟩ = some (.int .i64 x.k)
abbrev SKy (w : World) (a : Option Addr) (n c : Nat) (L : List TKy) : Prop := SL 3 tkz CKy w a n c L
theorem CKy.keep {w w2 : World} {b : Addr} {x : TKy} (h : CKy w b x) (k : w.grownBy w2 none) : CKy w2 b x := by
  obtain ⟨h0, h1, h2⟩ := h
  exact ⟨k.cell h0 (by simp), k.cell h1 (by simp), k.cell h2 (by simp)⟩
theorem SL.keep0SKy {w w2 : World} {a : Option Addr} {n c : Nat} {L : List TKy} (h : SKy w a n c L) (k : w.grownBy w2 none) : SKy w2 a n c L := h.keep fun _ _ q => CKy.keep q k
structure Cse where
  v : Int
  m : Int
  nx : Int
def csz : Cse := ⟨0, 0, 0⟩
def CCa (w : World) (b : Addr) (x : Cse) : Prop := (w.cell? b = some (.int .u32 x.v) ∧ 0 ≤ x.v ∧ x.v < 4294967296) ∧ (w.cell? ⟨b.block, b.off + 1, none⟩ = some (.int .u32 x.m) ∧ 0 ≤ x.m ∧ x.m < 4294967296) ∧ w.cell? ⟨b.block, b.off + 2, none⟩ = some (.int .i64 x.nx)
abbrev SCa (w : World) (a : Option Addr) (n c : Nat) (L : List Cse) : Prop := SL 3 csz CCa w a n c L
theorem CCa.keep {w w2 : World} {b : Addr} {x : Cse} (h : CCa w b x) (k : w.grownBy w2 none) : CCa w2 b x := by
  obtain ⟨h0, h1, h2⟩ := h
  exact ⟨⟨k.cell h0.1 (by simp), h0.2⟩, ⟨k.cell h1.1 (by simp), h1.2⟩, k.cell h2 (by simp)⟩
theorem SL.keep0SCa {w w2 : World} {a : Option Addr} {n c : Nat} {L : List Cse} (h : SCa w a n c L) (k : w.grownBy w2 none) : SCa w2 a n c L := h.keep fun _ _ q => CCa.keep q k
structure Stm where
  k : Int
  h : Int
  f : Int
  r : Int
  hd : Int
  ix : List Nd
  vl : List Nd
def smz : Stm := ⟨0, 0, 0, 0, 0, [], []⟩
def CSm (w : World) (b : Addr) (x : Stm) : Prop := w.cell? b = some (.int .i64 x.k) ∧ w.cell? ⟨b.block, b.off + 1, none⟩ = some (.int .i64 x.h) ∧ w.cell? ⟨b.block, b.off + 2, none⟩ = some (.int .i64 x.f) ∧ w.cell? ⟨b.block, b.off + 3, none⟩ = some (.int .i64 x.r) ∧ w.cell? ⟨b.block, b.off + 4, none⟩ = some (.int .i64 x.hd) ∧ (∃ a n c, w.cell? ⟨b.block, b.off + 5, none⟩ = some (.slice a n c) ∧ SN w a n c x.ix) ∧ (∃ a n c, w.cell? ⟨b.block, b.off + 6, none⟩ = some (.slice a n c) ∧ SN w a n c x.vl)
abbrev SSm (w : World) (a : Option Addr) (n c : Nat) (L : List Stm) : Prop := SL 7 smz CSm w a n c L
theorem CSm.keep {w w2 : World} {b : Addr} {x : Stm} (h : CSm w b x) (k : w.grownBy w2 none) : CSm w2 b x := by
  obtain ⟨h0, h1, h2, h3, h4, h5, h6⟩ := h
  exact ⟨k.cell h0 (by simp), k.cell h1 (by simp), k.cell h2 (by simp), k.cell h3 (by simp), k.cell h4 (by simp), (by obtain ⟨a, n, c, e, s⟩ := h5; exact ⟨a, n, c, k.cell e (by simp), s.keep0 k⟩), (by obtain ⟨a, n, c, e, s⟩ := h6; exact ⟨a, n, c, k.cell e (by simp), s.keep0 k⟩)⟩
theorem SL.keep0SSm {w w2 : World} {a : Option Addr} {n c : Nat} {L : List Stm} (h : SSm w a n c L) (k : w.grownBy w2 none) : SSm w2 a n c L := h.keep fun _ _ q => CSm.keep q k
structure Rgr where
  nm : ByteArray
  wd : Int
  sz : Int
def rgz : Rgr := ⟨⟨#[]⟩, 0, 0⟩
def CRg (w : World) (b : Addr) (x : Rgr) : Prop := w.cell? b = some (.string x.nm) ∧ w.cell? ⟨b.block, b.off + 1, none⟩ = some (.int .i64 x.wd) ∧ w.cell? ⟨b.block, b.off + 2, none⟩ = some (.int .i64 x.sz)
abbrev SRg (w : World) (a : Option Addr) (n c : Nat) (L : List Rgr) : Prop := SL 3 rgz CRg w a n c L
theorem CRg.keep {w w2 : World} {b : Addr} {x : Rgr} (h : CRg w b x) (k : w.grownBy w2 none) : CRg w2 b x := by
  obtain ⟨h0, h1, h2⟩ := h
  exact ⟨k.cell h0 (by simp), k.cell h1 (by simp), k.cell h2 (by simp)⟩
theorem SL.keep0SRg {w w2 : World} {a : Option Addr} {n c : Nat} {L : List Rgr} (h : SRg w a n c L) (k : w.grownBy w2 none) : SRg w2 a n c L := h.keep fun _ _ q => CRg.keep q k
structure Actn where
  nm : ByteArray
  ps : List Fld
  bd : List Stm
def anz : Actn := ⟨⟨#[]⟩, [], []⟩
def CAn (w : World) (b : Addr) (x : Actn) : Prop := w.cell? b = some (.string x.nm) ∧ (∃ a n c, w.cell? ⟨b.block, b.off + 1, none⟩ = some (.slice a n c) ∧ SF w a n c x.ps) ∧ (∃ a n c, w.cell? ⟨b.block, b.off + 2, none⟩ = some (.slice a n c) ∧ SSm w a n c x.bd)
abbrev SAn (w : World) (a : Option Addr) (n c : Nat) (L : List Actn) : Prop := SL 3 anz CAn w a n c L
theorem CAn.keep {w w2 : World} {b : Addr} {x : Actn} (h : CAn w b x) (k : w.grownBy w2 none) : CAn w2 b x := by
  obtain ⟨h0, h1, h2⟩ := h
  exact ⟨k.cell h0 (by simp), (by obtain ⟨a, n, c, e, s⟩ := h1; exact ⟨a, n, c, k.cell e (by simp), s.keep0 k⟩), (by obtain ⟨a, n, c, e, s⟩ := h2; exact ⟨a, n, c, k.cell e (by simp), s.keep0SSm k⟩)⟩
theorem SL.keep0SAn {w w2 : World} {a : Option Addr} {n c : Nat} {L : List Actn} (h : SAn w a n c L) (k : w.grownBy w2 none) : SAn w2 a n c L := h.keep fun _ _ q => CAn.keep q k
structure Tbl where
  nm : ByteArray
  ks : List TKy
  acs : List Int
  da : Int
  ar : List Int
  sz : Int
def tbz : Tbl := ⟨⟨#[]⟩, [], [], 0, [], 0⟩
def CTb (w : World) (b : Addr) (x : Tbl) : Prop := w.cell? b = some (.string x.nm) ∧ (∃ a n c, w.cell? ⟨b.block, b.off + 1, none⟩ = some (.slice a n c) ∧ SKy w a n c x.ks) ∧ (∃ a n c, w.cell? ⟨b.block, b.off + 2, none⟩ = some (.slice a n c) ∧ SI w a n c x.acs) ∧ (w.cell? ⟨b.block, b.off + 3, none⟩ = some (.int .i64 x.da) ∧ -9223372036854775808 ≤ x.da ∧ x.da ≤ 9223372036854775807) ∧ (∃ a n c, w.cell? ⟨b.block, b.off + 4, none⟩ = some (.slice a n c) ∧ SU w a n c x.ar) ∧ w.cell? ⟨b.block, b.off + 5, none⟩ = some (.int .i64 x.sz)
abbrev STb (w : World) (a : Option Addr) (n c : Nat) (L : List Tbl) : Prop := SL 6 tbz CTb w a n c L
theorem CTb.keep {w w2 : World} {b : Addr} {x : Tbl} (h : CTb w b x) (k : w.grownBy w2 none) : CTb w2 b x := by
  obtain ⟨h0, h1, h2, h3, h4, h5⟩ := h
  exact ⟨k.cell h0 (by simp), (by obtain ⟨a, n, c, e, s⟩ := h1; exact ⟨a, n, c, k.cell e (by simp), s.keep0SKy k⟩), (by obtain ⟨a, n, c, e, s⟩ := h2; exact ⟨a, n, c, k.cell e (by simp), s.keep0 k⟩), ⟨k.cell h3.1 (by simp), h3.2⟩, (by obtain ⟨a, n, c, e, s⟩ := h4; exact ⟨a, n, c, k.cell e (by simp), s.keep0 k⟩), k.cell h5 (by simp)⟩
theorem SL.keep0STb {w w2 : World} {a : Option Addr} {n c : Nat} {L : List Tbl} (h : STb w a n c L) (k : w.grownBy w2 none) : STb w2 a n c L := h.keep fun _ _ q => CTb.keep q k
structure Pst where
  nm : ByteArray
  ex : List Int
  sl : Bool
  h : Int
  f : Int
  cs : List Cse
  df : Int
def psz : Pst := ⟨⟨#[]⟩, [], false, 0, 0, [], 0⟩
def CPs (w : World) (b : Addr) (x : Pst) : Prop := w.cell? b = some (.string x.nm) ∧ (∃ a n c, w.cell? ⟨b.block, b.off + 1, none⟩ = some (.slice a n c) ∧ SI w a n c x.ex) ∧ w.cell? ⟨b.block, b.off + 2, none⟩ = some (.bool x.sl) ∧ w.cell? ⟨b.block, b.off + 3, none⟩ = some (.int .i64 x.h) ∧ w.cell? ⟨b.block, b.off + 4, none⟩ = some (.int .i64 x.f) ∧ (∃ a n c, w.cell? ⟨b.block, b.off + 5, none⟩ = some (.slice a n c) ∧ SCa w a n c x.cs) ∧ w.cell? ⟨b.block, b.off + 6, none⟩ = some (.int .i64 x.df)
abbrev SPs (w : World) (a : Option Addr) (n c : Nat) (L : List Pst) : Prop := SL 7 psz CPs w a n c L
theorem CPs.keep {w w2 : World} {b : Addr} {x : Pst} (h : CPs w b x) (k : w.grownBy w2 none) : CPs w2 b x := by
  obtain ⟨h0, h1, h2, h3, h4, h5, h6⟩ := h
  exact ⟨k.cell h0 (by simp), (by obtain ⟨a, n, c, e, s⟩ := h1; exact ⟨a, n, c, k.cell e (by simp), s.keep0 k⟩), k.cell h2 (by simp), k.cell h3 (by simp), k.cell h4 (by simp), (by obtain ⟨a, n, c, e, s⟩ := h5; exact ⟨a, n, c, k.cell e (by simp), s.keep0SCa k⟩), k.cell h6 (by simp)⟩
theorem SL.keep0SPs {w w2 : World} {a : Option Addr} {n c : Nat} {L : List Pst} (h : SPs w a n c L) (k : w.grownBy w2 none) : SPs w2 a n c L := h.keep fun _ _ q => CPs.keep q k
/-- Where a program lies. -/
structure PX where
  nm : ByteArray
  ha : Option Addr
  (hn hc : Nat)
  ma : Option Addr
  (mn mc : Nat)
  ra : Option Addr
  (rn rc : Nat)
  aa : Option Addr
  (an ac : Nat)
  ta : Option Addr
  (tn tc : Nat)
  sa : Option Addr
  (sn sc : Nat)
  ca : Option Addr
  (cn cc : Nat)
  da : Option Addr
  (dn dc : Nat)
/-- What it is: all but its control flow. -/
structure Pg where
  H : List (ByteArray × List Fld)
  M : List Fld
  R : List Rgr
  A : List Actn
  T : List Tbl
  S : List Pst
  D : List Int
structure SP (w : World) (X : PX) (P : Pg) : Prop where
  h : SH w X.ha X.hn X.hc P.H
  m : SF w X.ma X.mn X.mc P.M
  r : SRg w X.ra X.rn X.rc P.R
  a : SAn w X.aa X.an X.ac P.A
  t : STb w X.ta X.tn X.tc P.T
  s : SPs w X.sa X.sn X.sc P.S
  d : SI w X.da X.dn X.dc P.D
theorem SP.keep0 {w w2 : World} {X : PX} {P : Pg} (h : SP w X P) (k : w.grownBy w2 none) : SP w2 X P := ⟨h.h.keep0 k, h.m.keep0 k, h.r.keep0SRg k, h.a.keep0SAn k, h.t.keep0STb k, h.s.keep0SPs k, h.d.keep0 k⟩
end Go.Proofs.Ytjhknmklejkknaa
