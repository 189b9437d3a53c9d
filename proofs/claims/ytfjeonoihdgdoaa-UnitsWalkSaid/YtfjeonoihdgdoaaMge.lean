/- The texts TgA, FrE, FrK, TgB, FrW, FrB in one; no condition. -/
import Derived.Test.YtfjeonoihdgdoaaExB
import Derived.Test.YtfjeonoihdgdoaaExG
import Derived.Test.YtfjeonoihdgdoaaExJ
import Derived.Deep.SlicePairs
import Derived.Deep.Slices
import Derived.Deep.Fields
import Derived.ChangeSame
import Derived.Test.YtfjeonoihdgdoaaCnM
import Derived.SizedLaws
import Derived.Test.YtfjeonoihdgdoaaCnA
section
/- A program in memory: what its lists read as; no condition. -/
namespace Go.Proofs.Ytfjeonoihdgdoaa.Tb
open Go.RowKit
set_option linter.unusedVariables false
/-- A slice of structs of K cells that reads as a list. -/
structure SL {α : Type} (K : Nat) (z : α) (C : World → Addr → α → Prop) (w : World) (a : Option Addr) (n c : Nat) (L : List α) : Prop where
  len : L.length = n
  nil : a = none → n = 0 ∧ c = 0
  cap : n ≤ c
  cells : ∀ ad, a = some ad → ∀ j, j < n → C w (ad.add (j * K)) (L.getD j z)
theorem SL.some {α : Type} {K : Nat} {z : α} {C : World → Addr → α → Prop} {w : World} {a : Option Addr} {n c : Nat} {L : List α} (h : SL K z C w a n c L) (hn : 0 < n) : ∃ ad, a = some ad := by
  cases a with
  | none => have := (h.nil rfl).1; omega
  | some ad => exact ⟨ad, rfl⟩
theorem SL.keep {α : Type} {K : Nat} {z : α} {C : World → Addr → α → Prop} {w w2 : World} {a : Option Addr} {n c : Nat} {L : List α} (h : SL K z C w a n c L) (k : ∀ b x, C w b x → C w2 b x) : SL K z C w2 a n c L :=
  ⟨h.len, h.nil, h.cap, fun ad e j hj => k _ _ (h.cells ad e j hj)⟩
theorem sl_nil {α : Type} {K : Nat} {z : α} {C : World → Addr → α → Prop} (w : World) : SL K z C w none 0 0 [] := ⟨rfl, fun _ => ⟨rfl, rfl⟩, Nat.le_refl _, fun ad e => by cases e⟩
/-- A slice of numbers. -/
structure SI (w : World) (a : Option Addr) (n c : Nat) (L : List Int) : Prop where
  len : L.length = n
  nil : a = none → n = 0 ∧ c = 0
  cap : n ≤ c
  cells : ∀ ad, a = some ad → ∀ j, j < n → w.cell? (ad.add j) = some (.int .i64 (L.getD j 0))
  rng : ∀ x ∈ L, -9223372036854775808 ≤ x ∧ x ≤ 9223372036854775807
theorem SI.keep0 {w w2 : World} {a : Option Addr} {n c : Nat} {L : List Int} (h : SI w a n c L) (k : w.grownBy w2 none) : SI w2 a n c L :=
  ⟨h.len, h.nil, h.cap, fun ad e j hj => k.cell (h.cells ad e j hj) (by simp), h.rng⟩
theorem SI.some {w : World} {a : Option Addr} {n c : Nat} {L : List Int} (h : SI w a n c L) (hn : 0 < n) : ∃ ad, a = some ad := by
  cases a with
  | none => have := (h.nil rfl).1; omega
  | some ad => exact ⟨ad, rfl⟩
theorem si_nil (w : World) : SI w none 0 0 [] := ⟨rfl, fun _ => ⟨rfl, rfl⟩, Nat.le_refl _, (fun ad e => by cases e), fun x hx => by cases hx⟩
theorem SI.at_ {w : World} {a : Option Addr} {n c : Nat} {L : List Int} (h : SI w a n c L) (j : Nat) : -9223372036854775808 ≤ L.getD j 0 ∧ L.getD j 0 ≤ 9223372036854775807 := by
  by_cases hj : j < L.length
  · rw [List.getD_eq_getElem?_getD, List.getElem?_eq_getElem hj]; exact h.rng _ (List.getElem_mem _)
  · rw [List.getD_eq_getElem?_getD, List.getElem?_eq_none (by omega)]; decide
structure TKy where
  h : Int
  f : Int
  k : Int
def tkz : TKy := ⟨0, 0, 0⟩
def CKy (w : World) (b : Addr) (x : TKy) : Prop := w.cell? b = some (.int .i64 x.h) ∧ w.cell? ⟨b.block, b.off + 1, none⟩ = some (.int .i64 x.f) ∧ w.cell? ⟨b.block, b.off + 2, none⟩ = some (.int .i64 x.k)
abbrev SKy (w : World) (a : Option Addr) (n c : Nat) (L : List TKy) : Prop := SL 3 tkz CKy w a n c L
theorem CKy.keep {w w2 : World} {b : Addr} {x : TKy} (h : CKy w b x) (k : w.grownBy w2 none) : CKy w2 b x := by
  obtain ⟨h0, h1, h2⟩ := h
  exact ⟨k.cell h0 (by simp), k.cell h1 (by simp), k.cell h2 (by simp)⟩
theorem SL.keep0SKy {w w2 : World} {a : Option Addr} {n c : Nat} {L : List TKy} (h : SKy w a n c L) (k : w.grownBy w2 none) : SKy w2 a n c L := h.keep fun _ _ q => CKy.keep q k
structure Cse where
  v : Int
  m : Int
  nx : Int
def csz : Cse := ⟨0, 0, 0⟩
def CCa (w : World) (b : Addr) (x : Cse) : Prop := (w.cell? b = some (.int .u32 x.v) ∧ 0 ≤ x.v ∧ x.v < 4294967296) ∧ (w.cell? ⟨b.block, b.off + 1, none⟩ = some (.int .u32 x.m) ∧ 0 ≤ x.m ∧ x.m < 4294967296) ∧ w.cell? ⟨b.block, b.off + 2, none⟩ = some (.int .i64 x.nx)
abbrev SCa (w : World) (a : Option Addr) (n c : Nat) (L : List Cse) : Prop := SL 3 csz CCa w a n c L
theorem CCa.keep {w w2 : World} {b : Addr} {x : Cse} (h : CCa w b x) (k : w.grownBy w2 none) : CCa w2 b x := by
  obtain ⟨h0, h1, h2⟩ := h
  exact ⟨⟨k.cell h0.1 (by simp), h0.2⟩, ⟨k.cell h1.1 (by simp), h1.2⟩, k.cell h2 (by simp)⟩
theorem SL.keep0SCa {w w2 : World} {a : Option Addr} {n c : Nat} {L : List Cse} (h : SCa w a n c L) (k : w.grownBy w2 none) : SCa w2 a n c L := h.keep fun _ _ q => CCa.keep q k
structure Stm where
  k : Int
  h : Int
  f : Int
  r : Int
  hd : Int
  ix : List Nd
  vl : List Nd
def smz : Stm := ⟨0, 0, 0, 0, 0, [], []⟩
def CSm (w : World) (b : Addr) (x : Stm) : Prop := w.cell? b = some (.int .i64 x.k) ∧ w.cell? ⟨b.block, b.off + 1, none⟩ = some (.int .i64 x.h) ∧ w.cell? ⟨b.block, b.off + 2, none⟩ = some (.int .i64 x.f) ∧ w.cell? ⟨b.block, b.off + 3, none⟩ = some (.int .i64 x.r) ∧ w.cell? ⟨b.block, b.off + 4, none⟩ = some (.int .i64 x.hd) ∧ (∃ a n c, w.cell? ⟨b.block, b.off + 5, none⟩ = some (.slice a n c) ∧ SN w a n c x.ix) ∧ (∃ a n c, w.cell? ⟨b.block, b.off + 6, none⟩ = some (.slice a n c) ∧ SN w a n c x.vl)
abbrev SSm (w : World) (a : Option Addr) (n c : Nat) (L : List Stm) : Prop := SL 7 smz CSm w a n c L
theorem CSm.keep {w w2 : World} {b : Addr} {x : Stm} (h : CSm w b x) (k : w.grownBy w2 none) : CSm w2 b x := by
  obtain ⟨h0, h1, h2, h3, h4, h5, h6⟩ := h
  exact ⟨k.cell h0 (by simp), k.cell h1 (by simp), k.cell h2 (by simp), k.cell h3 (by simp), k.cell h4 (by simp), (by obtain ⟨a, n, c, e, s⟩ := h5; exact ⟨a, n, c, k.cell e (by simp), s.keep0 k⟩), (by obtain ⟨a, n, c, e, s⟩ := h6; exact ⟨a, n, c, k.cell e (by simp), s.keep0 k⟩)⟩
theorem SL.keep0SSm {w w2 : World} {a : Option Addr} {n c : Nat} {L : List Stm} (h : SSm w a n c L) (k : w.grownBy w2 none) : SSm w2 a n c L := h.keep fun _ _ q => CSm.keep q k
structure Rgr where
  nm : ByteArray
  wd : Int
  sz : Int
def rgz : Rgr := ⟨⟨#[]⟩, 0, 0⟩
def CRg (w : World) (b : Addr) (x : Rgr) : Prop := w.cell? b = some (.string x.nm) ∧ w.cell? ⟨b.block, b.off + 1, none⟩ = some (.int .i64 x.wd) ∧ w.cell? ⟨b.block, b.off + 2, none⟩ = some (.int .i64 x.sz)
abbrev SRg (w : World) (a : Option Addr) (n c : Nat) (L : List Rgr) : Prop := SL 3 rgz CRg w a n c L
theorem CRg.keep {w w2 : World} {b : Addr} {x : Rgr} (h : CRg w b x) (k : w.grownBy w2 none) : CRg w2 b x := by
  obtain ⟨h0, h1, h2⟩ := h
  exact ⟨k.cell h0 (by simp), k.cell h1 (by simp), k.cell h2 (by simp)⟩
theorem SL.keep0SRg {w w2 : World} {a : Option Addr} {n c : Nat} {L : List Rgr} (h : SRg w a n c L) (k : w.grownBy w2 none) : SRg w2 a n c L := h.keep fun _ _ q => CRg.keep q k
structure Actn where
  nm : ByteArray
  ps : List Fld
  bd : List Stm
def anz : Actn := ⟨⟨#[]⟩, [], []⟩
def CAn (w : World) (b : Addr) (x : Actn) : Prop := w.cell? b = some (.string x.nm) ∧ (∃ a n c, w.cell? ⟨b.block, b.off + 1, none⟩ = some (.slice a n c) ∧ SF w a n c x.ps) ∧ (∃ a n c, w.cell? ⟨b.block, b.off + 2, none⟩ = some (.slice a n c) ∧ SSm w a n c x.bd)
abbrev SAn (w : World) (a : Option Addr) (n c : Nat) (L : List Actn) : Prop := SL 3 anz CAn w a n c L
theorem CAn.keep {w w2 : World} {b : Addr} {x : Actn} (h : CAn w b x) (k : w.grownBy w2 none) : CAn w2 b x := by
  obtain ⟨h0, h1, h2⟩ := h
  exact ⟨k.cell h0 (by simp), (by obtain ⟨a, n, c, e, s⟩ := h1; exact ⟨a, n, c, k.cell e (by simp), s.keep0 k⟩), (by obtain ⟨a, n, c, e, s⟩ := h2; exact ⟨a, n, c, k.cell e (by simp), s.keep0SSm k⟩)⟩
theorem SL.keep0SAn {w w2 : World} {a : Option Addr} {n c : Nat} {L : List Actn} (h : SAn w a n c L) (k : w.grownBy w2 none) : SAn w2 a n c L := h.keep fun _ _ q => CAn.keep q k
structure Tbl where
  nm : ByteArray
  ks : List TKy
  acs : List Int
  da : Int
  ar : List Int
  sz : Int
def tbz : Tbl := ⟨⟨#[]⟩, [], [], 0, [], 0⟩
def CTb (w : World) (b : Addr) (x : Tbl) : Prop := w.cell? b = some (.string x.nm) ∧ (∃ a n c, w.cell? ⟨b.block, b.off + 1, none⟩ = some (.slice a n c) ∧ SKy w a n c x.ks) ∧ (∃ a n c, w.cell? ⟨b.block, b.off + 2, none⟩ = some (.slice a n c) ∧ SI w a n c x.acs) ∧ (w.cell? ⟨b.block, b.off + 3, none⟩ = some (.int .i64 x.da) ∧ -9223372036854775808 ≤ x.da ∧ x.da ≤ 9223372036854775807) ∧ (∃ a n c, w.cell? ⟨b.block, b.off + 4, none⟩ = some (.slice a n c) ∧ SU w a n c x.ar) ∧ w.cell? ⟨b.block, b.off + 5, none⟩ = some (.int .i64 x.sz)
abbrev STb (w : World) (a : Option Addr) (n c : Nat) (L : List Tbl) : Prop := SL 6 tbz CTb w a n c L
theorem CTb.keep {w w2 : World} {b : Addr} {x : Tbl} (h : CTb w b x) (k : w.grownBy w2 none) : CTb w2 b x := by
  obtain ⟨h0, h1, h2, h3, h4, h5⟩ := h
  exact ⟨k.cell h0 (by simp), (by obtain ⟨a, n, c, e, s⟩ := h1; exact ⟨a, n, c, k.cell e (by simp), s.keep0SKy k⟩), (by obtain ⟨a, n, c, e, s⟩ := h2; exact ⟨a, n, c, k.cell e (by simp), s.keep0 k⟩), ⟨k.cell h3.1 (by simp), h3.2⟩, (by obtain ⟨a, n, c, e, s⟩ := h4; exact ⟨a, n, c, k.cell e (by simp), s.keep0 k⟩), k.cell h5 (by simp)⟩
theorem SL.keep0STb {w w2 : World} {a : Option Addr} {n c : Nat} {L : List Tbl} (h : STb w a n c L) (k : w.grownBy w2 none) : STb w2 a n c L := h.keep fun _ _ q => CTb.keep q k
structure Pst where
  nm : ByteArray
  ex : List Int
  sl : Bool
  h : Int
  f : Int
  cs : List Cse
  df : Int
def psz : Pst := ⟨⟨#[]⟩, [], false, 0, 0, [], 0⟩
def CPs (w : World) (b : Addr) (x : Pst) : Prop := w.cell? b = some (.string x.nm) ∧ (∃ a n c, w.cell? ⟨b.block, b.off + 1, none⟩ = some (.slice a n c) ∧ SI w a n c x.ex) ∧ w.cell? ⟨b.block, b.off + 2, none⟩ = some (.bool x.sl) ∧ w.cell? ⟨b.block, b.off + 3, none⟩ = some (.int .i64 x.h) ∧ w.cell? ⟨b.block, b.off + 4, none⟩ = some (.int .i64 x.f) ∧ (∃ a n c, w.cell? ⟨b.block, b.off + 5, none⟩ = some (.slice a n c) ∧ SCa w a n c x.cs) ∧ w.cell? ⟨b.block, b.off + 6, none⟩ = some (.int .i64 x.df)
abbrev SPs (w : World) (a : Option Addr) (n c : Nat) (L : List Pst) : Prop := SL 7 psz CPs w a n c L
theorem CPs.keep {w w2 : World} {b : Addr} {x : Pst} (h : CPs w b x) (k : w.grownBy w2 none) : CPs w2 b x := by
  obtain ⟨h0, h1, h2, h3, h4, h5, h6⟩ := h
  exact ⟨k.cell h0 (by simp), (by obtain ⟨a, n, c, e, s⟩ := h1; exact ⟨a, n, c, k.cell e (by simp), s.keep0 k⟩), k.cell h2 (by simp), k.cell h3 (by simp), k.cell h4 (by simp), (by obtain ⟨a, n, c, e, s⟩ := h5; exact ⟨a, n, c, k.cell e (by simp), s.keep0SCa k⟩), k.cell h6 (by simp)⟩
theorem SL.keep0SPs {w w2 : World} {a : Option Addr} {n c : Nat} {L : List Pst} (h : SPs w a n c L) (k : w.grownBy w2 none) : SPs w2 a n c L := h.keep fun _ _ q => CPs.keep q k
/-- Where a program lies. -/
structure PX where
  nm : ByteArray
  ha : Option Addr
  (hn hc : Nat)
  ma : Option Addr
  (mn mc : Nat)
  ra : Option Addr
  (rn rc : Nat)
  aa : Option Addr
  (an ac : Nat)
  ta : Option Addr
  (tn tc : Nat)
  sa : Option Addr
  (sn sc : Nat)
  ca : Option Addr
  (cn cc : Nat)
  da : Option Addr
  (dn dc : Nat)
/-- What it is: all but its control flow. -/
structure Pg where
  H : List (ByteArray × List Fld)
  M : List Fld
  R : List Rgr
  A : List Actn
  T : List Tbl
  S : List Pst
  D : List Int
structure SP (w : World) (X : PX) (P : Pg) : Prop where
  h : SH w X.ha X.hn X.hc P.H
  m : SF w X.ma X.mn X.mc P.M
  r : SRg w X.ra X.rn X.rc P.R
  a : SAn w X.aa X.an X.ac P.A
  t : STb w X.ta X.tn X.tc P.T
  s : SPs w X.sa X.sn X.sc P.S
  d : SI w X.da X.dn X.dc P.D
theorem SP.keep0 {w w2 : World} {X : PX} {P : Pg} (h : SP w X P) (k : w.grownBy w2 none) : SP w2 X P := ⟨h.h.keep0 k, h.m.keep0 k, h.r.keep0SRg k, h.a.keep0SAn k, h.t.keep0STb k, h.s.keep0SPs k, h.d.keep0 k⟩
end Go.Proofs.Ytfjeonoihdgdoaa.Tb
end
section
/- Expr: how the arguments of the laws are opened: a program, nodes, an environment; no condition. -/
namespace Go.Proofs.Ytfjeonoihdgdoaa
open Go.ChangeShapes Go.WideShapes Go.ChangeAt Go.RowKit Go.Joins Go.Deep
set_option linter.unusedVariables false
section
variable {H : Type} {enc : TypeId × Value → H} {w : World}
theorem shape_sl {t e : TypeId} {n : Nat} {v : Value} {x : DataW H × List MemPlace} (ht : Try.prog.underlying t = some (.slice e)) (h : DataW.trod enc Try.prog w 0 (fun _ => true) true n t [v] = some x) : ∃ a l c, v = .slice a l c := by
  rcases open_slice ht h with ⟨hcs, _⟩ | ⟨a, len, cap, m, n, D, Pl, hcs, _⟩
  · injection hcs with h1 _; exact ⟨_, _, _, h1⟩
  · injection hcs with h1 _; exact ⟨_, _, _, h1⟩
theorem open_ones {t e : TypeId} {n : Nat} {v : Value} {x : DataW H × List MemPlace} (ht : Try.prog.underlying t = some (.slice e)) (ce : Try.prog.cellsOf e = 1) (h : DataW.trod enc Try.prog w 0 (fun _ => true) true n t [v] = some x) :
    v = .slice none 0 0 ∨ ∃ (a : Addr) (l c k : Nat) (V : Nat → Value), v = .slice (some a) l c ∧ l ≤ c ∧ ∀ i, i < l → w.cell? (a.add i) = some (V i) ∧ ∃ y, DataW.trod enc Try.prog w 0 (fun _ => true) true k e [V i] = some y := by
  rcases open_slice ht h with ⟨hcs, _⟩ | ⟨a, len, cap, m, k, D, Pl, hcs, _, hl, _, hm, _, hx⟩
  · injection hcs with h1 _; exact .inl h1
  · injection hcs with h1 _
    have each : ∀ i, i < len → ∃ q : Value, w.cell? (a.add i) = some q ∧ ∃ y, DataW.trod enc Try.prog w 0 (fun _ => true) true k e [q] = some y := by
      intro i hi
      obtain ⟨cs', hc, ht'⟩ := hx i (by rw [hm]; simp; omega)
      rw [ce] at hc
      obtain ⟨_, hcl, hat⟩ := World.cells?_some hc
      match cs', hcl with
      | [q], _ =>
        have h0 := hat (i := 0) (by decide)
        rw [Nat.mul_one, Go.Deep.add_add] at h0
        exact ⟨q, by simpa using h0, _, ht'⟩
    obtain ⟨V, hV⟩ := choose_lt each
    exact .inr ⟨a, len, cap, k, V, h1, hl, hV⟩
theorem open_su {n : Nat} {v : Value} {x : DataW H × List MemPlace} (h : DataW.trod enc Try.prog w 0 (fun _ => true) true n 35 [v] = some x) : ∃ a l c L, v = .slice a l c ∧ SU w a l c L := by
  rcases open_ones Try.underlying35 (by kernel_rfl) h with rfl | ⟨a, l, c, k, V, rfl, hl, hV⟩
  · exact ⟨_, _, _, [], rfl, su_nil _⟩
  · have each : ∀ i, i < l → ∃ z : Int, w.cell? (a.add i) = some (.int .u32 z) ∧ 0 ≤ z ∧ z < 4294967296 := by
      intro i hi
      obtain ⟨h1, y, h2⟩ := hV i hi
      obtain ⟨z, e, _, wf⟩ := DataW.trod_int Try.underlying86 h2
      injection e with e _
      rw [e] at h1
      have := u32_bd wf
      exact ⟨z, h1, this.1, this.2⟩
    obtain ⟨Z, hZ⟩ := choose_lt each
    refine ⟨_, _, _, (List.range l).map Z, rfl, by simp, (fun e => by cases e), hl, fun ad e j hj => ?_, fun y hy => ?_⟩
    · cases e
      have e : ((List.range l).map Z).getD j 0 = Z j := by simp [hj]
      rw [e]; exact (hZ j hj).1
    · obtain ⟨j, hj, rfl⟩ := List.mem_map.1 hy
      exact (hZ j (List.mem_range.1 hj)).2
theorem open_sb {n : Nat} {v : Value} {x : DataW H × List MemPlace} (h : DataW.trod enc Try.prog w 0 (fun _ => true) true n 33 [v] = some x) : ∃ a l c L, v = .slice a l c ∧ SB w a l c L := by
  rcases open_ones Try.underlying33 (by kernel_rfl) h with rfl | ⟨a, l, c, k, V, rfl, hl, hV⟩
  · exact ⟨_, _, _, [], rfl, rfl, fun _ => ⟨rfl, rfl⟩, Nat.le_refl _, fun ad e => by cases e⟩
  · have each : ∀ i, i < l → ∃ z : Bool, w.cell? (a.add i) = some (.bool z) := by
      intro i hi
      obtain ⟨h1, y, h2⟩ := hV i hi
      obtain ⟨z, e, _⟩ := DataW.trod_bool Try.underlying4 h2
      injection e with e _
      rw [e] at h1
      exact ⟨z, h1⟩
    obtain ⟨Z, hZ⟩ := choose_lt each
    refine ⟨_, _, _, (List.range l).map Z, rfl, by simp, (fun e => by cases e), hl, fun ad e j hj => ?_⟩
    cases e
    have e : ((List.range l).map Z).getD j false = Z j := by simp [hj]
    rw [e]; exact hZ j hj
theorem open_sr {n : Nat} {v : Value} {x : DataW H × List MemPlace} (h : DataW.trod enc Try.prog w 0 (fun _ => true) true n 34 [v] = some x) : ∃ a l c L, v = .slice a l c ∧ SR w a l c L := by
  rcases open_ones Try.underlying34 (by kernel_rfl) h with rfl | ⟨a, l, c, k, V, rfl, hl, hV⟩
  · exact ⟨_, _, _, [], rfl, rfl, fun _ => ⟨rfl, rfl⟩, Nat.le_refl _, fun ad e => by cases e⟩
  · have each : ∀ i, i < l → ∃ z : List Int, ∃ fa fn fc, w.cell? (a.add i) = some (.slice fa fn fc) ∧ SU w fa fn fc z := by
      intro i hi
      obtain ⟨h1, y, h2⟩ := hV i hi
      obtain ⟨fa, fn, fc, L, e, su⟩ := open_su h2
      rw [e] at h1
      exact ⟨L, fa, fn, fc, h1, su⟩
    obtain ⟨Z, hZ⟩ := choose_lt each
    refine ⟨_, _, _, (List.range l).map Z, rfl, by simp, (fun e => by cases e), hl, fun ad e j hj => ?_⟩
    cases e
    have e : ((List.range l).map Z).getD j [] = Z j := by simp [hj]
    rw [e]; exact hZ j hj
theorem add_n' (ad : Addr) (k : Nat) : (⟨(ad.add k).block, (ad.add k).off + 1, none⟩ : Addr) = ad.add (k + 1) := by
  rw [← Addr.add_add]
  rfl
theorem add_n2 (ad : Addr) (k : Nat) : (⟨(ad.add k).block, (ad.add k).off + 2, none⟩ : Addr) = ad.add (k + 2) := by
  rw [← Addr.add_add]
  rfl
theorem open_sf {n : Nat} {v : Value} {x : DataW H × List MemPlace} (h : DataW.trod enc Try.prog w 0 (fun _ => true) true n 23 [v] = some x) : ∃ a l c L, v = .slice a l c ∧ SF w a l c L := by
  rcases open_slice_pairs Try.underlying23 Try.underlying92 (by kernel_rfl) rfl rfl (by kernel_rfl) (by kernel_rfl) h with ⟨hcs, _⟩ | ⟨a, len, cap, m, n, V0, V1, D0, D1, P0, P1, hcs, _, hl, _, hm, _, hx⟩
  · injection hcs with h1 _
    exact ⟨_, _, _, [], h1, sf_nil _⟩
  · injection hcs with h1 _
    have each : ∀ i, i < len → ∃ q : Fld, w.cell? (a.add (i * 2)) = some (.string q.1) ∧ w.cell? (a.add (i * 2 + 1)) = some (.int .i64 q.2) := by
      intro i hi
      obtain ⟨k0, k1, g0, g1⟩ := hx i (by rw [hm]; simp; omega)
      obtain ⟨x, e0, _, w0⟩ := DataW.trod_string Try.underlying9 g0
      obtain ⟨y, e1, _, w1⟩ := DataW.trod_int Try.underlying3 g1
      injection e0 with e0 _
      injection e1 with e1 _
      rw [e0] at k0
      rw [e1] at k1
      exact ⟨(x, y), k0, k1⟩
    obtain ⟨q, hq⟩ := choose_lt each
    refine ⟨_, _, _, (List.range len).map q, h1, by simp, (fun e => by cases e), hl, fun ad e j hj => ?_⟩
    cases e
    rw [add_n']
    have e : ((List.range len).map q).getD j fz = q j := by simp [hj]
    rw [e]
    exact hq j hj
theorem open_sh {n : Nat} {v : Value} {x : DataW H × List MemPlace} (h : DataW.trod enc Try.prog w 0 (fun _ => true) true n 22 [v] = some x) : ∃ a l c L, v = .slice a l c ∧ SH w a l c L := by
  rcases open_slice_pairs Try.underlying22 Try.underlying94 (by kernel_rfl) rfl rfl (by kernel_rfl) (by kernel_rfl) h with ⟨hcs, _⟩ | ⟨a, len, cap, m, n, V0, V1, D0, D1, P0, P1, hcs, _, hl, _, hm, _, hx⟩
  · injection hcs with h1 _
    exact ⟨_, _, _, [], h1, rfl, fun _ => ⟨rfl, rfl⟩, Nat.le_refl _, fun ad e => by cases e⟩
  · injection hcs with h1 _
    have each : ∀ i, i < len → ∃ q : ByteArray × List Fld, w.cell? (a.add (i * 2)) = some (.string q.1) ∧ ∃ fa fn fc, w.cell? (a.add (i * 2 + 1)) = some (.slice fa fn fc) ∧ SF w fa fn fc q.2 := by
      intro i hi
      obtain ⟨k0, k1, g0, g1⟩ := hx i (by rw [hm]; simp; omega)
      obtain ⟨x, e0, _, w0⟩ := DataW.trod_string Try.underlying9 g0
      obtain ⟨fa, fn, fc, L, e1, sf⟩ := open_sf g1
      injection e0 with e0 _
      rw [e0] at k0
      rw [e1] at k1
      exact ⟨(x, L), k0, fa, fn, fc, k1, sf⟩
    obtain ⟨q, hq⟩ := choose_lt each
    refine ⟨_, _, _, (List.range len).map q, h1, by simp, (fun e => by cases e), hl, fun ad e j hj => ?_⟩
    cases e
    rw [add_n']
    have e : ((List.range len).map q).getD j hz = q j := by simp [hj]
    rw [e]
    exact hq j hj
theorem open_sn {n : Nat} {v : Value} {x : DataW H × List MemPlace} (h : DataW.trod enc Try.prog w 0 (fun _ => true) true n 32 [v] = some x) : ∃ a l c L, v = .slice a l c ∧ SN w a l c L := by
  rcases open_slice Try.underlying32 h with ⟨hcs, _⟩ | ⟨a, len, cap, m, k, D, Pl, hcs, _, hl, _, hm, _, hx⟩
  · injection hcs with h1 _
    exact ⟨_, _, _, [], h1, rfl, fun _ => ⟨rfl, rfl⟩, Nat.le_refl _, (fun ad e => by cases e), (fun x hx => by cases hx)⟩
  · injection hcs with h1 _
    have ce : Try.prog.cellsOf 51 = 3 := by kernel_rfl
    have ci : Try.prog.cellsOf 3 = 1 := by kernel_rfl
    rw [ce] at hx
    have each : ∀ i, i < len → ∃ q : Nd, w.cell? (a.add (i * 3)) = some (.int .i64 q.1) ∧ w.cell? (a.add (i * 3 + 1)) = some (.int .i64 q.2.1) ∧ w.cell? (a.add (i * 3 + 2)) = some (.int .i64 q.2.2) ∧ -9223372036854775808 ≤ q.2.1 ∧ q.2.1 ≤ 9223372036854775807 := by
      intro i hi
      obtain ⟨cs', hc, ht'⟩ := hx i (by rw [hm]; simp; omega)
      obtain ⟨_, hcl, hat⟩ := World.cells?_some hc
      match cs', hcl with
      | [q0, q1, q2], _ =>
        have g0 := hat (i := 0) (by decide)
        have g1 := hat (i := 1) (by decide)
        have g2 := hat (i := 2) (by decide)
        rw [Go.Deep.add_add] at g0 g1 g2
        obtain ⟨xs, n', _, _, _, hlen, hg⟩ := DataW.trod_struct Try.underlying51 ht'
        match xs, hlen with
        | [y0, y1, y2], _ =>
          have f0 := hg 0 _ rfl
          have f1 := hg 1 _ rfl
          have f2 := hg 2 _ rfl
          simp [ci] at f0 f1 f2
          obtain ⟨a0, e0, _, _⟩ := DataW.trod_int Try.underlying3 f0
          obtain ⟨a1, e1, _, w1⟩ := DataW.trod_int Try.underlying3 f1
          obtain ⟨a2, e2, _, _⟩ := DataW.trod_int Try.underlying3 f2
          injection e0 with e0 _
          injection e1 with e1 _
          injection e2 with e2 _
          subst e0 e1 e2
          exact ⟨(a0, a1, a2), by simpa using g0, by simpa using g1, by simpa using g2, i64_bd w1⟩
    obtain ⟨q, hq⟩ := choose_lt each
    refine ⟨_, _, _, (List.range len).map q, h1, by simp, (fun e => by cases e), hl, fun ad e j hj => ?_, fun y hy => ?_⟩
    · cases e
      rw [add_n', add_n2]
      have e : ((List.range len).map q).getD j nz = q j := by simp [hj]
      rw [e]
      exact ⟨(hq j hj).1, (hq j hj).2.1, (hq j hj).2.2.1⟩
    · obtain ⟨j, hj, rfl⟩ := List.mem_map.1 hy
      exact (hq j (List.mem_range.1 hj)).2.2.2
set_option maxRecDepth 100000 in
theorem open_xargs {r : Reach} {b0 : Nat} {v : Value} {d : DataW H} {p : List MemPlace} (hv : Value.okWide Try.prog w r b0 40 v) (h : DataW.Trod enc Try.prog w 0 (fun _ => true) true 40 v d p) :
    ∃ (X : KX) (C : Cx) (N : List Nd), v = .agg #[.string X.nm, .slice X.ha X.hn X.hc, .slice X.ma X.mn X.mc, .slice X.a0 X.n0 X.c0, .slice X.a1 X.n1 X.c1, .slice X.a2 X.n2 X.c2, .slice X.a3 X.n3 X.c3, .slice X.a4 X.n4 X.c4, .slice X.a5 X.n5 X.c5, .slice X.pa X.pn X.pc, .slice X.na X.nn X.nc, .slice X.va X.vn X.vc, .slice X.fa X.fn X.fc, .slice X.ta X.tn X.tc, .slice X.la X.ln X.lc, .slice X.aa X.an X.ac] ∧ CR w X C N := by
  have zP : Try.prog.cellsOf 31 = 9 := by kernel_rfl
  have zE : Try.prog.cellsOf 38 = 4 := by kernel_rfl
  have z0 : Try.prog.cellsOf 9 = 1 := by kernel_rfl
  have z1 : Try.prog.cellsOf 22 = 1 := by kernel_rfl
  have z2 : Try.prog.cellsOf 23 = 1 := by kernel_rfl
  have z3 : Try.prog.cellsOf 24 = 1 := by kernel_rfl
  have z4 : Try.prog.cellsOf 25 = 1 := by kernel_rfl
  have z5 : Try.prog.cellsOf 26 = 1 := by kernel_rfl
  have z6 : Try.prog.cellsOf 27 = 1 := by kernel_rfl
  have z7 : Try.prog.cellsOf 28 = 1 := by kernel_rfl
  have z8 : Try.prog.cellsOf 29 = 1 := by kernel_rfl
  have z9 : Try.prog.cellsOf 32 = 1 := by kernel_rfl
  have z10 : Try.prog.cellsOf 33 = 1 := by kernel_rfl
  have z11 : Try.prog.cellsOf 34 = 1 := by kernel_rfl
  have z12 : Try.prog.cellsOf 35 = 1 := by kernel_rfl
  have z13 : Try.prog.cellsOf 36 = 1 := by kernel_rfl
  obtain ⟨cs, rfl, hsz⟩ := okWide_struct Try.underlying40 hv
  obtain ⟨l⟩ := cs
  have hl : l.length = 16 := hsz.trans (by kernel_rfl)
  match l, hl with
  | [c0, c1, c2, c3, c4, c5, c6, c7, c8, c9, c10, c11, c12, c13, c14, c15], _ =>
    obtain ⟨fuel, hf⟩ := h
    obtain ⟨xs, n, _, _, _, hlen, hg⟩ := DataW.trod_struct Try.underlying40 hf
    match xs, hlen with
    | [y0, y1, y2, y3, y4], _ =>
      have h0 := hg 0 _ rfl
      have h1 := hg 1 _ rfl
      have h2 := hg 2 _ rfl
      have h3 := hg 3 _ rfl
      have h4 := hg 4 _ rfl
      simp [Value.cells, zP] at h0
      simp [Value.cells, z2] at h1
      simp [Value.cells, z9] at h2
      simp [Value.cells, zE] at h3
      simp [Value.cells, z12] at h4
      obtain ⟨ps, n1, _, _, _, plen, pg⟩ := DataW.trod_struct Try.underlying31 h0
      match ps, plen with
      | [q0, q1, q2, q3, q4, q5, q6, q7, q8], _ =>
        have p0 := pg 0 _ rfl
        have p1 := pg 1 _ rfl
        have p2 := pg 2 _ rfl
        have p3 := pg 3 _ rfl
        have p4 := pg 4 _ rfl
        have p5 := pg 5 _ rfl
        have p6 := pg 6 _ rfl
        have p7 := pg 7 _ rfl
        have p8 := pg 8 _ rfl
        simp [z0] at p0
        simp [z1] at p1
        simp [z2] at p2
        simp [z3] at p3
        simp [z4] at p4
        simp [z5] at p5
        simp [z6] at p6
        simp [z7] at p7
        simp [z8] at p8
        obtain ⟨es, n2, _, _, _, elen, eg⟩ := DataW.trod_struct Try.underlying38 h3
        match es, elen with
        | [u0, u1, u2, u3], _ =>
          have e0 := eg 0 _ rfl
          have e1 := eg 1 _ rfl
          have e2 := eg 2 _ rfl
          have e3 := eg 3 _ rfl
          simp [z10] at e0
          simp [z11] at e1
          simp [z12] at e2
          simp [z13] at e3
          obtain ⟨s, es, _, _⟩ := DataW.trod_string Try.underlying9 p0
          injection es with es _
          obtain ⟨ha, hn, hc, LH, rfl, sh⟩ := open_sh p1
          obtain ⟨ma, mn, mc, LM, rfl, sm⟩ := open_sf p2
          obtain ⟨a0, n0, d0, rfl⟩ := shape_sl Try.underlying24 p3
          obtain ⟨a1, n1', d1, rfl⟩ := shape_sl Try.underlying25 p4
          obtain ⟨a2, n2', d2, rfl⟩ := shape_sl Try.underlying26 p5
          obtain ⟨a3, n3, d3, rfl⟩ := shape_sl Try.underlying27 p6
          obtain ⟨a4, n4, d4, rfl⟩ := shape_sl Try.underlying28 p7
          obtain ⟨a5, n5, d5, rfl⟩ := shape_sl Try.underlying29 p8
          obtain ⟨pa, pn, pc, LP, rfl, sp⟩ := open_sf h1
          obtain ⟨na, nn, nc, LN, rfl, sn⟩ := open_sn h2
          obtain ⟨va, vn, vc, LV, rfl, sv⟩ := open_sb e0
          obtain ⟨fa, fn, fc, LF, rfl, sf⟩ := open_sr e1
          obtain ⟨ta, tn, tc, LT, rfl, st⟩ := open_su e2
          obtain ⟨la, ln, lc, rfl⟩ := shape_sl Try.underlying36 e3
          obtain ⟨aa, an, ac, LA, rfl, sa⟩ := open_su h4
          subst es
          exact ⟨⟨na, nn, nc, s, ha, hn, hc, ma, mn, mc, a0, n0, d0, a1, n1', d1, a2, n2', d2, a3, n3, d3, a4, n4, d4, a5, n5, d5, pa, pn, pc, va, vn, vc, fa, fn, fc, ta, tn, tc, la, ln, lc, aa, an, ac⟩, ⟨LH, LM, LP, LV, LF, LT, LA⟩, LN, rfl, ⟨sn, sh, sm, sp, sv, sf, st, sa⟩⟩
end
end Go.Proofs.Ytfjeonoihdgdoaa
end
section
/- Control: how a control flow as an argument is opened; no condition. -/
namespace Go.Proofs.Ytfjeonoihdgdoaa
open Go.ChangeShapes Go.WideShapes Go.ChangeAt Go.RowKit Go.Joins Go.Deep
set_option linter.unusedVariables false
section
variable {H : Type} {enc : TypeId × Value → H} {w : World}
instance : Inhabited CV := ⟨cz⟩
set_option maxRecDepth 100000 in
theorem open_ct : ∀ (m n : Nat) (v : Value) (x : DataW H × List MemPlace), n < m → DataW.trod enc Try.prog w 0 (fun _ => true) true n 28 [v] = some x → ∃ (s : Sl) (T : CT), v = .slice s.a s.n s.c ∧ ST w s T := by
  intro m
  induction m with
  | zero => intro n v x h; omega
  | succ m ih =>
    intro n v x hm h
    rcases DataW.trod_slice Try.underlying28 h with ⟨hcs, _⟩ | ⟨a, len, cap, elems, rest, k, rfl, hcs, _, _, hl, _, hlen, hel, _, _⟩
    · injection hcs with h1 _
      exact ⟨⟨none, 0, 0⟩, .nil, h1, ST.nilv w⟩
    · injection hcs with h1 _
      have ce : Try.prog.cellsOf 63 = 5 := by kernel_rfl
      have ci : Try.prog.cellsOf 3 = 1 := by kernel_rfl
      have cx : Try.prog.cellsOf 32 = 1 := by kernel_rfl
      have cc : Try.prog.cellsOf 28 = 1 := by kernel_rfl
      rw [ce] at hel
      have each : ∀ i, i < len → ∃ q : CV, (w.cell? (a.add (i * 5)) = some (.int .i64 q.k) ∧ w.cell? (a.add (i * 5 + 1)) = some (.int .i64 q.t) ∧ w.cell? (a.add (i * 5 + 2)) = some q.c.v ∧ w.cell? (a.add (i * 5 + 3)) = some q.s.v ∧ w.cell? (a.add (i * 5 + 4)) = some q.u.v) ∧ VM w q := by
        intro i hi
        have e := hel i hi
        rw [List.getElem?_eq_getElem (show i < elems.length by omega)] at e
        obtain ⟨cs', hc, ht'⟩ := Option.bind_eq_some_iff.1 e
        obtain ⟨_, hcl, hat⟩ := World.cells?_some hc
        match cs', hcl with
        | [q0, q1, q2, q3, q4], _ =>
          have g0 := hat (i := 0) (by decide)
          have g1 := hat (i := 1) (by decide)
          have g2 := hat (i := 2) (by decide)
          have g3 := hat (i := 3) (by decide)
          have g4 := hat (i := 4) (by decide)
          rw [Go.Deep.add_add] at g0 g1 g2 g3 g4
          obtain ⟨xs, n', hn', _, _, hlen2, hg⟩ := DataW.trod_struct Try.underlying63 ht'
          match xs, hlen2 with
          | [y0, y1, y2, y3, y4], _ =>
            have f0 := hg 0 _ rfl
            have f1 := hg 1 _ rfl
            have f2 := hg 2 _ rfl
            have f3 := hg 3 _ rfl
            have f4 := hg 4 _ rfl
            simp [ci] at f0 f1
            simp [cx] at f2
            simp [cc] at f3 f4
            obtain ⟨a0, e0, _, _⟩ := DataW.trod_int Try.underlying3 f0
            obtain ⟨a1, e1, _, _⟩ := DataW.trod_int Try.underlying3 f1
            injection e0 with e0 _
            injection e1 with e1 _
            obtain ⟨na, nn, nc, N, e2, sn⟩ := open_sn f2
            obtain ⟨s3, T3, e3, st3⟩ := ih n' q3 _ (by omega) f3
            obtain ⟨s4, T4, e4, st4⟩ := ih n' q4 _ (by omega) f4
            subst e0 e1 e2 e3 e4
            exact ⟨⟨a0, a1, ⟨na, nn, nc⟩, N, s3, T3, s4, T4⟩, ⟨by simpa using g0, by simpa using g1, by simpa using g2, by simpa using g3, by simpa using g4⟩, ⟨sn, st3, st4⟩⟩
      obtain ⟨q, hq⟩ := choose_lt each
      refine ⟨⟨some a, len, cap⟩, CT.ofL ((List.range len).map q), h1, by rw [CT.ofL_len]; simp, (fun e => by cases e), hl, fun ad e => ?_⟩
      cases e
      refine ctm_ofL _ 0 (fun i hi => ?_)
      have hi' : i < len := by simpa using hi
      have e : ((List.range len).map q).getD i cz = q i := by
        rw [List.getD_eq_getElem?_getD, List.getElem?_map, List.getElem?_range hi']; rfl
      rw [e, Nat.zero_add, add_nr _ _ 1 (by decide), add_nr _ _ 2 (by decide), add_nr _ _ 3 (by decide), add_nr _ _ 4 (by decide)]
      exact hq i hi'
set_option maxRecDepth 100000 in
theorem open_ctree {r : Reach} {b0 : Nat} {v : Value} {d : DataW H} {p : List MemPlace} (hv : Value.okWide Try.prog w r b0 28 v) (h : DataW.Trod enc Try.prog w 0 (fun _ => true) true 28 v d p) :
    ∃ (s : Sl) (T : CT), v = .slice s.a s.n s.c ∧ ST w s T := by
  obtain ⟨a0, len0, cap0, rfl⟩ := okWide_slice Try.underlying28 hv
  obtain ⟨fuel, hf⟩ := h
  exact open_ct (fuel + 1) fuel _ _ (by omega) hf
theorem lowD2 {W W' : World} {e : Ending} (h : RetV (.bool true) W e W') : e = .returned (.bool true) ∧ Below W.heap.size W W' := ⟨h.1, ⟨h.2.os, h.2.tape, h.2.output, h.2.size, fun i hi => h.2.block i hi (by simp)⟩⟩
end
end Go.Proofs.Ytfjeonoihdgdoaa
end
section
/- How a program is opened as an argument; no condition. -/
namespace Go.Proofs.Ytfjeonoihdgdoaa.Tb
open Go.ChangeShapes Go.WideShapes Go.ChangeAt Go.RowKit Go.Joins Go.Deep
set_option linter.unusedVariables false
section
variable {H : Type} {enc : TypeId × Value → H} {w : World}
theorem shape_sl {t e : TypeId} {n : Nat} {v : Value} {x : DataW H × List MemPlace} (ht : Try.prog.underlying t = some (.slice e)) (h : DataW.trod enc Try.prog w 0 (fun _ => true) true n t [v] = some x) : ∃ a l c, v = .slice a l c := by
  rcases open_slice ht h with ⟨hcs, _⟩ | ⟨a, len, cap, m, n, D, Pl, hcs, _⟩
  · injection hcs with h1 _; exact ⟨_, _, _, h1⟩
  · injection hcs with h1 _; exact ⟨_, _, _, h1⟩
theorem open_si {n : Nat} {v : Value} {x : DataW H × List MemPlace} (h : DataW.trod enc Try.prog w 0 (fun _ => true) true n 29 [v] = some x) : ∃ a l c L, v = .slice a l c ∧ SI w a l c L := by
  rcases open_ones Try.underlying29 (by kernel_rfl) h with rfl | ⟨a, l, c, k, V, rfl, hl, hV⟩
  · exact ⟨_, _, _, [], rfl, si_nil _⟩
  · have each : ∀ i, i < l → ∃ z : Int, w.cell? (a.add i) = some (.int .i64 z) ∧ -9223372036854775808 ≤ z ∧ z ≤ 9223372036854775807 := by
      intro i hi
      obtain ⟨h1, y, h2⟩ := hV i hi
      obtain ⟨z, e, _, wf⟩ := DataW.trod_int Try.underlying3 h2
      injection e with e _
      rw [e] at h1
      exact ⟨z, h1, i64_bd wf⟩
    obtain ⟨Z, hZ⟩ := choose_lt each
    refine ⟨_, _, _, (List.range l).map Z, rfl, by simp, (fun e => by cases e), hl, fun ad e j hj => ?_, fun y hy => ?_⟩
    · cases e
      have e : ((List.range l).map Z).getD j 0 = Z j := by simp [hj]
      rw [e]; exact (hZ j hj).1
    · obtain ⟨j, hj, rfl⟩ := List.mem_map.1 hy
      exact (hZ j (List.mem_range.1 hj)).2
/-- A slice of structs, by how one of them is opened. -/
theorem open_sl {α : Type} {K : Nat} {z : α} {C : World → Addr → α → Prop} {t e : TypeId} (ht : Try.prog.underlying t = some (.slice e)) (ce : Try.prog.cellsOf e = K)
    (hE : ∀ (n : Nat) (cs : List Value) (y : DataW H × List MemPlace) (b : Addr), cs.length = K → (∀ i u, cs[i]? = some u → w.cell? (b.add i) = some u) → DataW.trod enc Try.prog w 0 (fun _ => true) true n e cs = some y → ∃ x : α, C w b x)
    {n : Nat} {v : Value} {x : DataW H × List MemPlace} (h : DataW.trod enc Try.prog w 0 (fun _ => true) true n t [v] = some x) : ∃ a l c L, v = .slice a l c ∧ SL K z C w a l c L := by
  rcases open_slice ht h with ⟨hcs, _⟩ | ⟨a, len, cap, m, k, D, Pl, hcs, _, hl, _, hm, _, hx⟩
  · injection hcs with h1 _
    exact ⟨_, _, _, [], h1, sl_nil _⟩
  · injection hcs with h1 _
    rw [ce] at hx
    have each : ∀ i, i < len → ∃ q : α, C w (a.add (i * K)) q := by
      intro i hi
      obtain ⟨cs', hc, ht'⟩ := hx i (by rw [hm]; simp; omega)
      obtain ⟨_, hcl, hat⟩ := World.cells?_some hc
      refine hE _ cs' _ _ hcl (fun j u hu => ?_) ht'
      have hj : j < cs'.length := (List.getElem?_eq_some_iff.1 hu).1
      have g := hat (i := j) (by omega)
      rw [g, hu]
    haveI : Inhabited α := ⟨z⟩
    obtain ⟨q, hq⟩ := choose_lt each
    refine ⟨_, _, _, (List.range len).map q, h1, by simp, (fun e => by cases e), hl, fun ad e j hj => ?_⟩
    cases e
    have e : ((List.range len).map q).getD j z = q j := by simp [hj]
    rw [e]
    exact hq j hj
theorem el_TKy (n : Nat) (cs : List Value) (y : DataW H × List MemPlace) (b : Addr) (hl : cs.length = 3) (hat : ∀ i u, cs[i]? = some u → w.cell? (b.add i) = some u) (h : DataW.trod enc Try.prog w 0 (fun _ => true) true n 253 cs = some y) : ∃ x : TKy, CKy w b x := by
  match cs, hl with
  | [q0, q1, q2], _ =>
    have g0 := hat 0 q0 rfl
    have g1 := hat 1 q1 rfl
    have g2 := hat 2 q2 rfl
    obtain ⟨xs, n1, _, _, _, hlen, hg⟩ := DataW.trod_struct Try.underlying253 h
    match xs, hlen with
    | [y0, y1], _ =>
      have p0 : DataW.trod enc Try.prog w 0 (fun _ => true) true n1 102 [q0, q1] = some y0 := by
        have q : DataW.trod enc Try.prog w 0 (fun _ => true) true n1 102 (([q0, q1, q2].drop 0).take (Try.prog.cellsOf 102)) = some y0 := hg 0 _ rfl
        rw [show Try.prog.cellsOf 102 = 2 from by kernel_rfl] at q
        exact q
      obtain ⟨zs0, m0, _, _, _, zlen0, zg0⟩ := DataW.trod_struct Try.underlying102 p0
      match zs0, zlen0 with
      | [z0_0, z0_1], _ =>
      have p0_0 : DataW.trod enc Try.prog w 0 (fun _ => true) true m0 3 [q0] = some z0_0 := by
        have q : DataW.trod enc Try.prog w 0 (fun _ => true) true m0 3 (([q0, q1].drop 0).take (Try.prog.cellsOf 3)) = some z0_0 := zg0 0 _ rfl
        rw [show Try.prog.cellsOf 3 = 1 from by kernel_rfl] at q
        exact q
      have p0_1 : DataW.trod enc Try.prog w 0 (fun _ => true) true m0 3 [q1] = some z0_1 := by
        have q : DataW.trod enc Try.prog w 0 (fun _ => true) true m0 3 (([q0, q1].drop 1).take (Try.prog.cellsOf 3)) = some z0_1 := zg0 1 _ rfl
        rw [show Try.prog.cellsOf 3 = 1 from by kernel_rfl] at q
        exact q
      have p1 : DataW.trod enc Try.prog w 0 (fun _ => true) true n1 3 [q2] = some y1 := by
        have q : DataW.trod enc Try.prog w 0 (fun _ => true) true n1 3 (([q0, q1, q2].drop 2).take (Try.prog.cellsOf 3)) = some y1 := hg 1 _ rfl
        rw [show Try.prog.cellsOf 3 = 1 from by kernel_rfl] at q
        exact q
      obtain ⟨a0, e0, _, w0⟩ := DataW.trod_int Try.underlying3 p0_0
      injection e0 with e0 _
      subst e0
      obtain ⟨a1, e1, _, w1⟩ := DataW.trod_int Try.underlying3 p0_1
      injection e1 with e1 _
      subst e1
      obtain ⟨a2, e2, _, w2⟩ := DataW.trod_int Try.underlying3 p1
      injection e2 with e2 _
      subst e2
      exact ⟨⟨a0, a1, a2⟩, g0, g1, g2⟩
theorem open_sky {n : Nat} {v : Value} {x : DataW H × List MemPlace} (h : DataW.trod enc Try.prog w 0 (fun _ => true) true n 114 [v] = some x) : ∃ a l c L, v = .slice a l c ∧ SKy w a l c L := open_sl Try.underlying114 (by kernel_rfl) el_TKy h
theorem el_Cse (n : Nat) (cs : List Value) (y : DataW H × List MemPlace) (b : Addr) (hl : cs.length = 3) (hat : ∀ i u, cs[i]? = some u → w.cell? (b.add i) = some u) (h : DataW.trod enc Try.prog w 0 (fun _ => true) true n 255 cs = some y) : ∃ x : Cse, CCa w b x := by
  match cs, hl with
  | [q0, q1, q2], _ =>
    have g0 := hat 0 q0 rfl
    have g1 := hat 1 q1 rfl
    have g2 := hat 2 q2 rfl
    obtain ⟨xs, n1, _, _, _, hlen, hg⟩ := DataW.trod_struct Try.underlying255 h
    match xs, hlen with
    | [y0, y1, y2], _ =>
      have p0 : DataW.trod enc Try.prog w 0 (fun _ => true) true n1 86 [q0] = some y0 := by
        have q : DataW.trod enc Try.prog w 0 (fun _ => true) true n1 86 (([q0, q1, q2].drop 0).take (Try.prog.cellsOf 86)) = some y0 := hg 0 _ rfl
        rw [show Try.prog.cellsOf 86 = 1 from by kernel_rfl] at q
        exact q
      have p1 : DataW.trod enc Try.prog w 0 (fun _ => true) true n1 86 [q1] = some y1 := by
        have q : DataW.trod enc Try.prog w 0 (fun _ => true) true n1 86 (([q0, q1, q2].drop 1).take (Try.prog.cellsOf 86)) = some y1 := hg 1 _ rfl
        rw [show Try.prog.cellsOf 86 = 1 from by kernel_rfl] at q
        exact q
      have p2 : DataW.trod enc Try.prog w 0 (fun _ => true) true n1 3 [q2] = some y2 := by
        have q : DataW.trod enc Try.prog w 0 (fun _ => true) true n1 3 (([q0, q1, q2].drop 2).take (Try.prog.cellsOf 3)) = some y2 := hg 2 _ rfl
        rw [show Try.prog.cellsOf 3 = 1 from by kernel_rfl] at q
        exact q
      obtain ⟨a0, e0, _, w0⟩ := DataW.trod_int Try.underlying86 p0
      injection e0 with e0 _
      subst e0
      obtain ⟨a1, e1, _, w1⟩ := DataW.trod_int Try.underlying86 p1
      injection e1 with e1 _
      subst e1
      obtain ⟨a2, e2, _, w2⟩ := DataW.trod_int Try.underlying3 p2
      injection e2 with e2 _
      subst e2
      exact ⟨⟨a0, a1, a2⟩, ⟨g0, (u32_bd w0).1, (u32_bd w0).2⟩, ⟨g1, (u32_bd w1).1, (u32_bd w1).2⟩, g2⟩
theorem open_sca {n : Nat} {v : Value} {x : DataW H × List MemPlace} (h : DataW.trod enc Try.prog w 0 (fun _ => true) true n 119 [v] = some x) : ∃ a l c L, v = .slice a l c ∧ SCa w a l c L := open_sl Try.underlying119 (by kernel_rfl) el_Cse h
theorem el_Stm (n : Nat) (cs : List Value) (y : DataW H × List MemPlace) (b : Addr) (hl : cs.length = 7) (hat : ∀ i u, cs[i]? = some u → w.cell? (b.add i) = some u) (h : DataW.trod enc Try.prog w 0 (fun _ => true) true n 157 cs = some y) : ∃ x : Stm, CSm w b x := by
  match cs, hl with
  | [q0, q1, q2, q3, q4, q5, q6], _ =>
    have g0 := hat 0 q0 rfl
    have g1 := hat 1 q1 rfl
    have g2 := hat 2 q2 rfl
    have g3 := hat 3 q3 rfl
    have g4 := hat 4 q4 rfl
    have g5 := hat 5 q5 rfl
    have g6 := hat 6 q6 rfl
    obtain ⟨xs, n1, _, _, _, hlen, hg⟩ := DataW.trod_struct Try.underlying157 h
    match xs, hlen with
    | [y0, y1, y2, y3, y4, y5], _ =>
      have p0 : DataW.trod enc Try.prog w 0 (fun _ => true) true n1 3 [q0] = some y0 := by
        have q : DataW.trod enc Try.prog w 0 (fun _ => true) true n1 3 (([q0, q1, q2, q3, q4, q5, q6].drop 0).take (Try.prog.cellsOf 3)) = some y0 := hg 0 _ rfl
        rw [show Try.prog.cellsOf 3 = 1 from by kernel_rfl] at q
        exact q
      have p1 : DataW.trod enc Try.prog w 0 (fun _ => true) true n1 102 [q1, q2] = some y1 := by
        have q : DataW.trod enc Try.prog w 0 (fun _ => true) true n1 102 (([q0, q1, q2, q3, q4, q5, q6].drop 1).take (Try.prog.cellsOf 102)) = some y1 := hg 1 _ rfl
        rw [show Try.prog.cellsOf 102 = 2 from by kernel_rfl] at q
        exact q
      obtain ⟨zs1, m1, _, _, _, zlen1, zg1⟩ := DataW.trod_struct Try.underlying102 p1
      match zs1, zlen1 with
      | [z1_0, z1_1], _ =>
      have p1_0 : DataW.trod enc Try.prog w 0 (fun _ => true) true m1 3 [q1] = some z1_0 := by
        have q : DataW.trod enc Try.prog w 0 (fun _ => true) true m1 3 (([q1, q2].drop 0).take (Try.prog.cellsOf 3)) = some z1_0 := zg1 0 _ rfl
        rw [show Try.prog.cellsOf 3 = 1 from by kernel_rfl] at q
        exact q
      have p1_1 : DataW.trod enc Try.prog w 0 (fun _ => true) true m1 3 [q2] = some z1_1 := by
        have q : DataW.trod enc Try.prog w 0 (fun _ => true) true m1 3 (([q1, q2].drop 1).take (Try.prog.cellsOf 3)) = some z1_1 := zg1 1 _ rfl
        rw [show Try.prog.cellsOf 3 = 1 from by kernel_rfl] at q
        exact q
      have p2 : DataW.trod enc Try.prog w 0 (fun _ => true) true n1 3 [q3] = some y2 := by
        have q : DataW.trod enc Try.prog w 0 (fun _ => true) true n1 3 (([q0, q1, q2, q3, q4, q5, q6].drop 3).take (Try.prog.cellsOf 3)) = some y2 := hg 2 _ rfl
        rw [show Try.prog.cellsOf 3 = 1 from by kernel_rfl] at q
        exact q
      have p3 : DataW.trod enc Try.prog w 0 (fun _ => true) true n1 3 [q4] = some y3 := by
        have q : DataW.trod enc Try.prog w 0 (fun _ => true) true n1 3 (([q0, q1, q2, q3, q4, q5, q6].drop 4).take (Try.prog.cellsOf 3)) = some y3 := hg 3 _ rfl
        rw [show Try.prog.cellsOf 3 = 1 from by kernel_rfl] at q
        exact q
      have p4 : DataW.trod enc Try.prog w 0 (fun _ => true) true n1 32 [q5] = some y4 := by
        have q : DataW.trod enc Try.prog w 0 (fun _ => true) true n1 32 (([q0, q1, q2, q3, q4, q5, q6].drop 5).take (Try.prog.cellsOf 32)) = some y4 := hg 4 _ rfl
        rw [show Try.prog.cellsOf 32 = 1 from by kernel_rfl] at q
        exact q
      have p5 : DataW.trod enc Try.prog w 0 (fun _ => true) true n1 32 [q6] = some y5 := by
        have q : DataW.trod enc Try.prog w 0 (fun _ => true) true n1 32 (([q0, q1, q2, q3, q4, q5, q6].drop 6).take (Try.prog.cellsOf 32)) = some y5 := hg 5 _ rfl
        rw [show Try.prog.cellsOf 32 = 1 from by kernel_rfl] at q
        exact q
      obtain ⟨a0, e0, _, w0⟩ := DataW.trod_int Try.underlying3 p0
      injection e0 with e0 _
      subst e0
      obtain ⟨a1, e1, _, w1⟩ := DataW.trod_int Try.underlying3 p1_0
      injection e1 with e1 _
      subst e1
      obtain ⟨a2, e2, _, w2⟩ := DataW.trod_int Try.underlying3 p1_1
      injection e2 with e2 _
      subst e2
      obtain ⟨a3, e3, _, w3⟩ := DataW.trod_int Try.underlying3 p2
      injection e3 with e3 _
      subst e3
      obtain ⟨a4, e4, _, w4⟩ := DataW.trod_int Try.underlying3 p3
      injection e4 with e4 _
      subst e4
      obtain ⟨a5, l5, c5, L5, e5, s5⟩ := open_sn p4
      subst e5
      obtain ⟨a6, l6, c6, L6, e6, s6⟩ := open_sn p5
      subst e6
      exact ⟨⟨a0, a1, a2, a3, a4, L5, L6⟩, g0, g1, g2, g3, g4, ⟨_, _, _, g5, s5⟩, ⟨_, _, _, g6, s6⟩⟩
theorem open_ssm {n : Nat} {v : Value} {x : DataW H × List MemPlace} (h : DataW.trod enc Try.prog w 0 (fun _ => true) true n 153 [v] = some x) : ∃ a l c L, v = .slice a l c ∧ SSm w a l c L := open_sl Try.underlying153 (by kernel_rfl) el_Stm h
theorem el_Rgr (n : Nat) (cs : List Value) (y : DataW H × List MemPlace) (b : Addr) (hl : cs.length = 3) (hat : ∀ i u, cs[i]? = some u → w.cell? (b.add i) = some u) (h : DataW.trod enc Try.prog w 0 (fun _ => true) true n 159 cs = some y) : ∃ x : Rgr, CRg w b x := by
  match cs, hl with
  | [q0, q1, q2], _ =>
    have g0 := hat 0 q0 rfl
    have g1 := hat 1 q1 rfl
    have g2 := hat 2 q2 rfl
    obtain ⟨xs, n1, _, _, _, hlen, hg⟩ := DataW.trod_struct Try.underlying159 h
    match xs, hlen with
    | [y0, y1, y2], _ =>
      have p0 : DataW.trod enc Try.prog w 0 (fun _ => true) true n1 9 [q0] = some y0 := by
        have q : DataW.trod enc Try.prog w 0 (fun _ => true) true n1 9 (([q0, q1, q2].drop 0).take (Try.prog.cellsOf 9)) = some y0 := hg 0 _ rfl
        rw [show Try.prog.cellsOf 9 = 1 from by kernel_rfl] at q
        exact q
      have p1 : DataW.trod enc Try.prog w 0 (fun _ => true) true n1 3 [q1] = some y1 := by
        have q : DataW.trod enc Try.prog w 0 (fun _ => true) true n1 3 (([q0, q1, q2].drop 1).take (Try.prog.cellsOf 3)) = some y1 := hg 1 _ rfl
        rw [show Try.prog.cellsOf 3 = 1 from by kernel_rfl] at q
        exact q
      have p2 : DataW.trod enc Try.prog w 0 (fun _ => true) true n1 3 [q2] = some y2 := by
        have q : DataW.trod enc Try.prog w 0 (fun _ => true) true n1 3 (([q0, q1, q2].drop 2).take (Try.prog.cellsOf 3)) = some y2 := hg 2 _ rfl
        rw [show Try.prog.cellsOf 3 = 1 from by kernel_rfl] at q
        exact q
      obtain ⟨a0, e0, _, _⟩ := DataW.trod_string Try.underlying9 p0
      injection e0 with e0 _
      subst e0
      obtain ⟨a1, e1, _, w1⟩ := DataW.trod_int Try.underlying3 p1
      injection e1 with e1 _
      subst e1
      obtain ⟨a2, e2, _, w2⟩ := DataW.trod_int Try.underlying3 p2
      injection e2 with e2 _
      subst e2
      exact ⟨⟨a0, a1, a2⟩, g0, g1, g2⟩
theorem open_srg {n : Nat} {v : Value} {x : DataW H × List MemPlace} (h : DataW.trod enc Try.prog w 0 (fun _ => true) true n 24 [v] = some x) : ∃ a l c L, v = .slice a l c ∧ SRg w a l c L := open_sl Try.underlying24 (by kernel_rfl) el_Rgr h
theorem el_Actn (n : Nat) (cs : List Value) (y : DataW H × List MemPlace) (b : Addr) (hl : cs.length = 3) (hat : ∀ i u, cs[i]? = some u → w.cell? (b.add i) = some u) (h : DataW.trod enc Try.prog w 0 (fun _ => true) true n 155 cs = some y) : ∃ x : Actn, CAn w b x := by
  match cs, hl with
  | [q0, q1, q2], _ =>
    have g0 := hat 0 q0 rfl
    have g1 := hat 1 q1 rfl
    have g2 := hat 2 q2 rfl
    obtain ⟨xs, n1, _, _, _, hlen, hg⟩ := DataW.trod_struct Try.underlying155 h
    match xs, hlen with
    | [y0, y1, y2], _ =>
      have p0 : DataW.trod enc Try.prog w 0 (fun _ => true) true n1 9 [q0] = some y0 := by
        have q : DataW.trod enc Try.prog w 0 (fun _ => true) true n1 9 (([q0, q1, q2].drop 0).take (Try.prog.cellsOf 9)) = some y0 := hg 0 _ rfl
        rw [show Try.prog.cellsOf 9 = 1 from by kernel_rfl] at q
        exact q
      have p1 : DataW.trod enc Try.prog w 0 (fun _ => true) true n1 23 [q1] = some y1 := by
        have q : DataW.trod enc Try.prog w 0 (fun _ => true) true n1 23 (([q0, q1, q2].drop 1).take (Try.prog.cellsOf 23)) = some y1 := hg 1 _ rfl
        rw [show Try.prog.cellsOf 23 = 1 from by kernel_rfl] at q
        exact q
      have p2 : DataW.trod enc Try.prog w 0 (fun _ => true) true n1 153 [q2] = some y2 := by
        have q : DataW.trod enc Try.prog w 0 (fun _ => true) true n1 153 (([q0, q1, q2].drop 2).take (Try.prog.cellsOf 153)) = some y2 := hg 2 _ rfl
        rw [show Try.prog.cellsOf 153 = 1 from by kernel_rfl] at q
        exact q
      obtain ⟨a0, e0, _, _⟩ := DataW.trod_string Try.underlying9 p0
      injection e0 with e0 _
      subst e0
      obtain ⟨a1, l1, c1, L1, e1, s1⟩ := open_sf p1
      subst e1
      obtain ⟨a2, l2, c2, L2, e2, s2⟩ := open_ssm p2
      subst e2
      exact ⟨⟨a0, L1, L2⟩, g0, ⟨_, _, _, g1, s1⟩, ⟨_, _, _, g2, s2⟩⟩
theorem open_san {n : Nat} {v : Value} {x : DataW H × List MemPlace} (h : DataW.trod enc Try.prog w 0 (fun _ => true) true n 25 [v] = some x) : ∃ a l c L, v = .slice a l c ∧ SAn w a l c L := open_sl Try.underlying25 (by kernel_rfl) el_Actn h
theorem el_Tbl (n : Nat) (cs : List Value) (y : DataW H × List MemPlace) (b : Addr) (hl : cs.length = 6) (hat : ∀ i u, cs[i]? = some u → w.cell? (b.add i) = some u) (h : DataW.trod enc Try.prog w 0 (fun _ => true) true n 118 cs = some y) : ∃ x : Tbl, CTb w b x := by
  match cs, hl with
  | [q0, q1, q2, q3, q4, q5], _ =>
    have g0 := hat 0 q0 rfl
    have g1 := hat 1 q1 rfl
    have g2 := hat 2 q2 rfl
    have g3 := hat 3 q3 rfl
    have g4 := hat 4 q4 rfl
    have g5 := hat 5 q5 rfl
    obtain ⟨xs, n1, _, _, _, hlen, hg⟩ := DataW.trod_struct Try.underlying118 h
    match xs, hlen with
    | [y0, y1, y2, y3, y4], _ =>
      have p0 : DataW.trod enc Try.prog w 0 (fun _ => true) true n1 9 [q0] = some y0 := by
        have q : DataW.trod enc Try.prog w 0 (fun _ => true) true n1 9 (([q0, q1, q2, q3, q4, q5].drop 0).take (Try.prog.cellsOf 9)) = some y0 := hg 0 _ rfl
        rw [show Try.prog.cellsOf 9 = 1 from by kernel_rfl] at q
        exact q
      have p1 : DataW.trod enc Try.prog w 0 (fun _ => true) true n1 114 [q1] = some y1 := by
        have q : DataW.trod enc Try.prog w 0 (fun _ => true) true n1 114 (([q0, q1, q2, q3, q4, q5].drop 1).take (Try.prog.cellsOf 114)) = some y1 := hg 1 _ rfl
        rw [show Try.prog.cellsOf 114 = 1 from by kernel_rfl] at q
        exact q
      have p2 : DataW.trod enc Try.prog w 0 (fun _ => true) true n1 29 [q2] = some y2 := by
        have q : DataW.trod enc Try.prog w 0 (fun _ => true) true n1 29 (([q0, q1, q2, q3, q4, q5].drop 2).take (Try.prog.cellsOf 29)) = some y2 := hg 2 _ rfl
        rw [show Try.prog.cellsOf 29 = 1 from by kernel_rfl] at q
        exact q
      have p3 : DataW.trod enc Try.prog w 0 (fun _ => true) true n1 116 [q3, q4] = some y3 := by
        have q : DataW.trod enc Try.prog w 0 (fun _ => true) true n1 116 (([q0, q1, q2, q3, q4, q5].drop 3).take (Try.prog.cellsOf 116)) = some y3 := hg 3 _ rfl
        rw [show Try.prog.cellsOf 116 = 2 from by kernel_rfl] at q
        exact q
      obtain ⟨zs3, m3, _, _, _, zlen3, zg3⟩ := DataW.trod_struct Try.underlying116 p3
      match zs3, zlen3 with
      | [z3_0, z3_1], _ =>
      have p3_0 : DataW.trod enc Try.prog w 0 (fun _ => true) true m3 3 [q3] = some z3_0 := by
        have q : DataW.trod enc Try.prog w 0 (fun _ => true) true m3 3 (([q3, q4].drop 0).take (Try.prog.cellsOf 3)) = some z3_0 := zg3 0 _ rfl
        rw [show Try.prog.cellsOf 3 = 1 from by kernel_rfl] at q
        exact q
      have p3_1 : DataW.trod enc Try.prog w 0 (fun _ => true) true m3 35 [q4] = some z3_1 := by
        have q : DataW.trod enc Try.prog w 0 (fun _ => true) true m3 35 (([q3, q4].drop 1).take (Try.prog.cellsOf 35)) = some z3_1 := zg3 1 _ rfl
        rw [show Try.prog.cellsOf 35 = 1 from by kernel_rfl] at q
        exact q
      have p4 : DataW.trod enc Try.prog w 0 (fun _ => true) true n1 3 [q5] = some y4 := by
        have q : DataW.trod enc Try.prog w 0 (fun _ => true) true n1 3 (([q0, q1, q2, q3, q4, q5].drop 5).take (Try.prog.cellsOf 3)) = some y4 := hg 4 _ rfl
        rw [show Try.prog.cellsOf 3 = 1 from by kernel_rfl] at q
        exact q
      obtain ⟨a0, e0, _, _⟩ := DataW.trod_string Try.underlying9 p0
      injection e0 with e0 _
      subst e0
      obtain ⟨a1, l1, c1, L1, e1, s1⟩ := open_sky p1
      subst e1
      obtain ⟨a2, l2, c2, L2, e2, s2⟩ := open_si p2
      subst e2
      obtain ⟨a3, e3, _, w3⟩ := DataW.trod_int Try.underlying3 p3_0
      injection e3 with e3 _
      subst e3
      obtain ⟨a4, l4, c4, L4, e4, s4⟩ := open_su p3_1
      subst e4
      obtain ⟨a5, e5, _, w5⟩ := DataW.trod_int Try.underlying3 p4
      injection e5 with e5 _
      subst e5
      exact ⟨⟨a0, L1, L2, a3, L4, a5⟩, g0, ⟨_, _, _, g1, s1⟩, ⟨_, _, _, g2, s2⟩, ⟨g3, (i64_bd w3).1, (i64_bd w3).2⟩, ⟨_, _, _, g4, s4⟩, g5⟩
theorem open_stb {n : Nat} {v : Value} {x : DataW H × List MemPlace} (h : DataW.trod enc Try.prog w 0 (fun _ => true) true n 26 [v] = some x) : ∃ a l c L, v = .slice a l c ∧ STb w a l c L := open_sl Try.underlying26 (by kernel_rfl) el_Tbl h
theorem el_Pst (n : Nat) (cs : List Value) (y : DataW H × List MemPlace) (b : Addr) (hl : cs.length = 7) (hat : ∀ i u, cs[i]? = some u → w.cell? (b.add i) = some u) (h : DataW.trod enc Try.prog w 0 (fun _ => true) true n 121 cs = some y) : ∃ x : Pst, CPs w b x := by
  match cs, hl with
  | [q0, q1, q2, q3, q4, q5, q6], _ =>
    have g0 := hat 0 q0 rfl
    have g1 := hat 1 q1 rfl
    have g2 := hat 2 q2 rfl
    have g3 := hat 3 q3 rfl
    have g4 := hat 4 q4 rfl
    have g5 := hat 5 q5 rfl
    have g6 := hat 6 q6 rfl
    obtain ⟨xs, n1, _, _, _, hlen, hg⟩ := DataW.trod_struct Try.underlying121 h
    match xs, hlen with
    | [y0, y1, y2, y3, y4, y5], _ =>
      have p0 : DataW.trod enc Try.prog w 0 (fun _ => true) true n1 9 [q0] = some y0 := by
        have q : DataW.trod enc Try.prog w 0 (fun _ => true) true n1 9 (([q0, q1, q2, q3, q4, q5, q6].drop 0).take (Try.prog.cellsOf 9)) = some y0 := hg 0 _ rfl
        rw [show Try.prog.cellsOf 9 = 1 from by kernel_rfl] at q
        exact q
      have p1 : DataW.trod enc Try.prog w 0 (fun _ => true) true n1 29 [q1] = some y1 := by
        have q : DataW.trod enc Try.prog w 0 (fun _ => true) true n1 29 (([q0, q1, q2, q3, q4, q5, q6].drop 1).take (Try.prog.cellsOf 29)) = some y1 := hg 1 _ rfl
        rw [show Try.prog.cellsOf 29 = 1 from by kernel_rfl] at q
        exact q
      have p2 : DataW.trod enc Try.prog w 0 (fun _ => true) true n1 4 [q2] = some y2 := by
        have q : DataW.trod enc Try.prog w 0 (fun _ => true) true n1 4 (([q0, q1, q2, q3, q4, q5, q6].drop 2).take (Try.prog.cellsOf 4)) = some y2 := hg 2 _ rfl
        rw [show Try.prog.cellsOf 4 = 1 from by kernel_rfl] at q
        exact q
      have p3 : DataW.trod enc Try.prog w 0 (fun _ => true) true n1 102 [q3, q4] = some y3 := by
        have q : DataW.trod enc Try.prog w 0 (fun _ => true) true n1 102 (([q0, q1, q2, q3, q4, q5, q6].drop 3).take (Try.prog.cellsOf 102)) = some y3 := hg 3 _ rfl
        rw [show Try.prog.cellsOf 102 = 2 from by kernel_rfl] at q
        exact q
      obtain ⟨zs3, m3, _, _, _, zlen3, zg3⟩ := DataW.trod_struct Try.underlying102 p3
      match zs3, zlen3 with
      | [z3_0, z3_1], _ =>
      have p3_0 : DataW.trod enc Try.prog w 0 (fun _ => true) true m3 3 [q3] = some z3_0 := by
        have q : DataW.trod enc Try.prog w 0 (fun _ => true) true m3 3 (([q3, q4].drop 0).take (Try.prog.cellsOf 3)) = some z3_0 := zg3 0 _ rfl
        rw [show Try.prog.cellsOf 3 = 1 from by kernel_rfl] at q
        exact q
      have p3_1 : DataW.trod enc Try.prog w 0 (fun _ => true) true m3 3 [q4] = some z3_1 := by
        have q : DataW.trod enc Try.prog w 0 (fun _ => true) true m3 3 (([q3, q4].drop 1).take (Try.prog.cellsOf 3)) = some z3_1 := zg3 1 _ rfl
        rw [show Try.prog.cellsOf 3 = 1 from by kernel_rfl] at q
        exact q
      have p4 : DataW.trod enc Try.prog w 0 (fun _ => true) true n1 119 [q5] = some y4 := by
        have q : DataW.trod enc Try.prog w 0 (fun _ => true) true n1 119 (([q0, q1, q2, q3, q4, q5, q6].drop 5).take (Try.prog.cellsOf 119)) = some y4 := hg 4 _ rfl
        rw [show Try.prog.cellsOf 119 = 1 from by kernel_rfl] at q
        exact q
      have p5 : DataW.trod enc Try.prog w 0 (fun _ => true) true n1 3 [q6] = some y5 := by
        have q : DataW.trod enc Try.prog w 0 (fun _ => true) true n1 3 (([q0, q1, q2, q3, q4, q5, q6].drop 6).take (Try.prog.cellsOf 3)) = some y5 := hg 5 _ rfl
        rw [show Try.prog.cellsOf 3 = 1 from by kernel_rfl] at q
        exact q
      obtain ⟨a0, e0, _, _⟩ := DataW.trod_string Try.underlying9 p0
      injection e0 with e0 _
      subst e0
      obtain ⟨a1, l1, c1, L1, e1, s1⟩ := open_si p1
      subst e1
      obtain ⟨a2, e2, _⟩ := DataW.trod_bool Try.underlying4 p2
      injection e2 with e2 _
      subst e2
      obtain ⟨a3, e3, _, w3⟩ := DataW.trod_int Try.underlying3 p3_0
      injection e3 with e3 _
      subst e3
      obtain ⟨a4, e4, _, w4⟩ := DataW.trod_int Try.underlying3 p3_1
      injection e4 with e4 _
      subst e4
      obtain ⟨a5, l5, c5, L5, e5, s5⟩ := open_sca p4
      subst e5
      obtain ⟨a6, e6, _, w6⟩ := DataW.trod_int Try.underlying3 p5
      injection e6 with e6 _
      subst e6
      exact ⟨⟨a0, L1, a2, a3, a4, L5, a6⟩, g0, ⟨_, _, _, g1, s1⟩, g2, g3, g4, ⟨_, _, _, g5, s5⟩, g6⟩
theorem open_sps {n : Nat} {v : Value} {x : DataW H × List MemPlace} (h : DataW.trod enc Try.prog w 0 (fun _ => true) true n 27 [v] = some x) : ∃ a l c L, v = .slice a l c ∧ SPs w a l c L := open_sl Try.underlying27 (by kernel_rfl) el_Pst h
set_option maxRecDepth 100000 in
theorem open_pg {r : Reach} {b0 : Nat} {v : Value} {d : DataW H} {p : List MemPlace} (hv : Value.okWide Try.prog w r b0 31 v) (h : DataW.Trod enc Try.prog w 0 (fun _ => true) true 31 v d p) :
    ∃ (X : PX) (P : Pg), v = .agg #[.string X.nm, .slice X.ha X.hn X.hc, .slice X.ma X.mn X.mc, .slice X.ra X.rn X.rc, .slice X.aa X.an X.ac, .slice X.ta X.tn X.tc, .slice X.sa X.sn X.sc, .slice X.ca X.cn X.cc, .slice X.da X.dn X.dc] ∧ SP w X P ∧ ∃ n y, DataW.trod enc Try.prog w 0 (fun _ => true) true n 28 [.slice X.ca X.cn X.cc] = some y := by
  obtain ⟨cs, rfl, hsz⟩ := okWide_struct Try.underlying31 hv
  obtain ⟨l⟩ := cs
  have hl : l.length = 9 := hsz.trans (by kernel_rfl)
  match l, hl with
  | [c0, c1, c2, c3, c4, c5, c6, c7, c8], _ =>
    obtain ⟨fuel, hf⟩ := h
    obtain ⟨xs, n, _, _, _, hlen, pg⟩ := DataW.trod_struct Try.underlying31 hf
    match xs, hlen with
    | [q0, q1, q2, q3, q4, q5, q6, q7, q8], _ =>
      have p0 : DataW.trod enc Try.prog w 0 (fun _ => true) true n 9 [c0] = some q0 := by
        have q : DataW.trod enc Try.prog w 0 (fun _ => true) true n 9 (([c0, c1, c2, c3, c4, c5, c6, c7, c8].drop 0).take (Try.prog.cellsOf 9)) = some q0 := pg 0 _ rfl
        rw [show Try.prog.cellsOf 9 = 1 from by kernel_rfl] at q
        exact q
      have p1 : DataW.trod enc Try.prog w 0 (fun _ => true) true n 22 [c1] = some q1 := by
        have q : DataW.trod enc Try.prog w 0 (fun _ => true) true n 22 (([c0, c1, c2, c3, c4, c5, c6, c7, c8].drop 1).take (Try.prog.cellsOf 22)) = some q1 := pg 1 _ rfl
        rw [show Try.prog.cellsOf 22 = 1 from by kernel_rfl] at q
        exact q
      have p2 : DataW.trod enc Try.prog w 0 (fun _ => true) true n 23 [c2] = some q2 := by
        have q : DataW.trod enc Try.prog w 0 (fun _ => true) true n 23 (([c0, c1, c2, c3, c4, c5, c6, c7, c8].drop 2).take (Try.prog.cellsOf 23)) = some q2 := pg 2 _ rfl
        rw [show Try.prog.cellsOf 23 = 1 from by kernel_rfl] at q
        exact q
      have p3 : DataW.trod enc Try.prog w 0 (fun _ => true) true n 24 [c3] = some q3 := by
        have q : DataW.trod enc Try.prog w 0 (fun _ => true) true n 24 (([c0, c1, c2, c3, c4, c5, c6, c7, c8].drop 3).take (Try.prog.cellsOf 24)) = some q3 := pg 3 _ rfl
        rw [show Try.prog.cellsOf 24 = 1 from by kernel_rfl] at q
        exact q
      have p4 : DataW.trod enc Try.prog w 0 (fun _ => true) true n 25 [c4] = some q4 := by
        have q : DataW.trod enc Try.prog w 0 (fun _ => true) true n 25 (([c0, c1, c2, c3, c4, c5, c6, c7, c8].drop 4).take (Try.prog.cellsOf 25)) = some q4 := pg 4 _ rfl
        rw [show Try.prog.cellsOf 25 = 1 from by kernel_rfl] at q
        exact q
      have p5 : DataW.trod enc Try.prog w 0 (fun _ => true) true n 26 [c5] = some q5 := by
        have q : DataW.trod enc Try.prog w 0 (fun _ => true) true n 26 (([c0, c1, c2, c3, c4, c5, c6, c7, c8].drop 5).take (Try.prog.cellsOf 26)) = some q5 := pg 5 _ rfl
        rw [show Try.prog.cellsOf 26 = 1 from by kernel_rfl] at q
        exact q
      have p6 : DataW.trod enc Try.prog w 0 (fun _ => true) true n 27 [c6] = some q6 := by
        have q : DataW.trod enc Try.prog w 0 (fun _ => true) true n 27 (([c0, c1, c2, c3, c4, c5, c6, c7, c8].drop 6).take (Try.prog.cellsOf 27)) = some q6 := pg 6 _ rfl
        rw [show Try.prog.cellsOf 27 = 1 from by kernel_rfl] at q
        exact q
      have p7 : DataW.trod enc Try.prog w 0 (fun _ => true) true n 28 [c7] = some q7 := by
        have q : DataW.trod enc Try.prog w 0 (fun _ => true) true n 28 (([c0, c1, c2, c3, c4, c5, c6, c7, c8].drop 7).take (Try.prog.cellsOf 28)) = some q7 := pg 7 _ rfl
        rw [show Try.prog.cellsOf 28 = 1 from by kernel_rfl] at q
        exact q
      have p8 : DataW.trod enc Try.prog w 0 (fun _ => true) true n 29 [c8] = some q8 := by
        have q : DataW.trod enc Try.prog w 0 (fun _ => true) true n 29 (([c0, c1, c2, c3, c4, c5, c6, c7, c8].drop 8).take (Try.prog.cellsOf 29)) = some q8 := pg 8 _ rfl
        rw [show Try.prog.cellsOf 29 = 1 from by kernel_rfl] at q
        exact q
      obtain ⟨s, es, _, _⟩ := DataW.trod_string Try.underlying9 p0
      injection es with es _
      subst es
      obtain ⟨a1, n1, d1, L1, rfl, s1⟩ := open_sh p1
      obtain ⟨a2, n2, d2, L2, rfl, s2⟩ := open_sf p2
      obtain ⟨a3, n3, d3, L3, rfl, s3⟩ := open_srg p3
      obtain ⟨a4, n4, d4, L4, rfl, s4⟩ := open_san p4
      obtain ⟨a5, n5, d5, L5, rfl, s5⟩ := open_stb p5
      obtain ⟨a6, n6, d6, L6, rfl, s6⟩ := open_sps p6
      obtain ⟨a7, n7, d7, rfl⟩ := shape_sl Try.underlying28 p7
      obtain ⟨a8, n8, d8, L8, rfl, s8⟩ := open_si p8
      exact ⟨⟨s, a1, n1, d1, a2, n2, d2, a3, n3, d3, a4, n4, d4, a5, n5, d5, a6, n6, d6, a7, n7, d7, a8, n8, d8⟩, ⟨L1, L2, L3, L4, L5, L6, L8⟩, rfl, ⟨s1, s2, s3, s4, s5, s6, s8⟩, n, _, p7⟩
end
end Go.Proofs.Ytfjeonoihdgdoaa.Tb
end
section
/- Units: how a program with its control flow is opened, and that its conditions fit the memory. -/
namespace Go.Proofs.Ytfjeonoihdgdoaa
open Go.ChangeShapes Go.WideShapes Go.ChangeAt Go.RowKit Go.Joins Go.Deep
set_option linter.unusedVariables false
section
variable {H : Type} {enc : TypeId × Value → H} {w : World}
def WtT (W : List Nat) (T : CT) : Prop := ∀ z ∈ T.pre, z.N.length = 0 ∨ ∃ o ∈ W, z.N.length * 24 ≤ o
theorem weightsAll_mem {P : Program} {e : TypeId} : ∀ (l : List (DataW H)) (d : DataW H), d ∈ l → ∀ o ∈ d.weights P e, o ∈ DataW.weightsAll P e l
  | d0 :: r, d, h, o, ho => by
    simp only [DataW.weightsAll, List.mem_append]
    rcases List.mem_cons.1 h with rfl | h
    · exact .inl ho
    · exact .inr (weightsAll_mem r d h o ho)
theorem ofL_pre : ∀ (l : List CV) (z : CV), z ∈ (CT.ofL l).pre → ∃ x ∈ l, z ∈ x :: (x.th.pre ++ x.el.pre)
  | [], z, h => by cases h
  | x :: l, z, h => by
    have e : (CT.ofL (x :: l)).pre = x :: (x.th.pre ++ (x.el.pre ++ (CT.ofL l).pre)) := rfl
    rw [e] at h
    rcases List.mem_cons.1 h with rfl | h
    · exact ⟨z, List.mem_cons_self .., List.mem_cons_self ..⟩
    rcases List.mem_append.1 h with h | h
    · exact ⟨x, List.mem_cons_self .., List.mem_cons_of_mem _ (List.mem_append_left _ h)⟩
    rcases List.mem_append.1 h with h | h
    · exact ⟨x, List.mem_cons_self .., List.mem_cons_of_mem _ (List.mem_append_right _ h)⟩
    · obtain ⟨y, hy, hz⟩ := ofL_pre l z h
      exact ⟨y, List.mem_cons_of_mem _ hy, hz⟩
theorem open_snw {n l c : Nat} {a : Option Addr} {v : Value} {x : DataW H × List MemPlace} (h : DataW.trod enc Try.prog w 0 (fun _ => true) true n 32 [v] = some x) (e : v = .slice a l c) : l = 0 ∨ ∃ o ∈ x.1.weights Try.prog 32, l * 24 ≤ o := by
  subst e
  rcases open_slice Try.underlying32 h with ⟨hcs, _⟩ | ⟨a2, len, cap, m, k, D, Pl, hcs, _, hl, _, hm, hq, _⟩
  · injection hcs with h1 _
    injection h1 with _ h2 _
    exact .inl h2
  · injection hcs with h1 _
    injection h1 with _ h2 _
    subst h2
    have hb : Try.prog.bytesOf 51 = 24 := by kernel_rfl
    refine .inr ⟨(l + (m - l)) * 24, ?_, Nat.mul_le_mul_right _ (by omega)⟩
    rw [hq]
    simp [DataW.weights, Try.underlying32, hb]
set_option maxRecDepth 100000 in
theorem open_ctw : ∀ (m n : Nat) (v : Value) (x : DataW H × List MemPlace), n < m → DataW.trod enc Try.prog w 0 (fun _ => true) true n 28 [v] = some x → ∃ (s : Sl) (T : CT), v = .slice s.a s.n s.c ∧ ST w s T ∧ WtT (x.1.weights Try.prog 28) T := by
  intro m
  induction m with
  | zero => intro n v x h; omega
  | succ m ih =>
    intro n v x hm h
    rcases DataW.trod_slice Try.underlying28 h with ⟨hcs, _⟩ | ⟨a, len, cap, elems, rest, k, rfl, hcs, hxx, _, hl, _, hlen, hel, _, _⟩
    · injection hcs with h1 _
      exact ⟨⟨none, 0, 0⟩, .nil, h1, ST.nilv w, fun z hz => by cases hz⟩
    · injection hcs with h1 _
      have ce : Try.prog.cellsOf 63 = 5 := by kernel_rfl
      have ci : Try.prog.cellsOf 3 = 1 := by kernel_rfl
      have cx : Try.prog.cellsOf 32 = 1 := by kernel_rfl
      have cc : Try.prog.cellsOf 28 = 1 := by kernel_rfl
      rw [ce] at hel
      have each : ∀ i, i < len → ∃ q : CV, (w.cell? (a.add (i * 5)) = some (.int .i64 q.k) ∧ w.cell? (a.add (i * 5 + 1)) = some (.int .i64 q.t) ∧ w.cell? (a.add (i * 5 + 2)) = some q.c.v ∧ w.cell? (a.add (i * 5 + 3)) = some q.s.v ∧ w.cell? (a.add (i * 5 + 4)) = some q.u.v) ∧ VM w q ∧ ∀ z ∈ q :: (q.th.pre ++ q.el.pre), z.N.length = 0 ∨ ∃ y ∈ elems, ∃ o ∈ y.1.weights Try.prog 63, z.N.length * 24 ≤ o := by
        intro i hi
        have e := hel i hi
        rw [List.getElem?_eq_getElem (show i < elems.length by omega)] at e
        obtain ⟨cs', hc, ht'⟩ := Option.bind_eq_some_iff.1 e
        obtain ⟨_, hcl, hat⟩ := World.cells?_some hc
        match cs', hcl with
        | [q0, q1, q2, q3, q4], _ =>
          have g0 := hat (i := 0) (by decide)
          have g1 := hat (i := 1) (by decide)
          have g2 := hat (i := 2) (by decide)
          have g3 := hat (i := 3) (by decide)
          have g4 := hat (i := 4) (by decide)
          rw [Go.Deep.add_add] at g0 g1 g2 g3 g4
          obtain ⟨xs, n', hn', hxd, _, hlen2, hg⟩ := DataW.trod_struct Try.underlying63 ht'
          match xs, hlen2 with
          | [y0, y1, y2, y3, y4], _ =>
            have f0 := hg 0 _ rfl
            have f1 := hg 1 _ rfl
            have f2 := hg 2 _ rfl
            have f3 := hg 3 _ rfl
            have f4 := hg 4 _ rfl
            simp [ci] at f0 f1
            simp [cx] at f2
            simp [cc] at f3 f4
            obtain ⟨a0, e0, _, _⟩ := DataW.trod_int Try.underlying3 f0
            obtain ⟨a1, e1, _, _⟩ := DataW.trod_int Try.underlying3 f1
            injection e0 with e0 _
            injection e1 with e1 _
            obtain ⟨na, nn, nc, N, e2, sn⟩ := open_sn f2
            have wt2 := open_snw f2 e2
            have ix : i < elems.length := by omega
            have inE : ∀ (jj : Nat) (t : TypeId) (d : DataW H), ([3, 3, 32, 28, 28] : List TypeId)[jj]? = some t → ([y0.1, y1.1, y2.1, y3.1, y4.1] : List (DataW H))[jj]? = some d → ∀ o ∈ d.weights Try.prog t, ∃ y ∈ elems, o ∈ y.1.weights Try.prog 63 := fun jj t d h1 h2 o ho => ⟨elems[i], List.getElem_mem ix, by
              rw [show (elems[i]).1 = .agg [y0.1, y1.1, y2.1, y3.1, y4.1] from congrArg Prod.fst hxd]
              have := DataW.weights_mem_each h1 h2 o ho
              simpa [DataW.weights, Try.underlying63] using this⟩
            obtain ⟨s3, T3, e3, st3, wt3⟩ := ih n' q3 _ (by omega) f3
            obtain ⟨s4, T4, e4, st4, wt4⟩ := ih n' q4 _ (by omega) f4
            subst e0 e1 e2 e3 e4
            refine ⟨⟨a0, a1, ⟨na, nn, nc⟩, N, s3, T3, s4, T4⟩, ⟨by simpa using g0, by simpa using g1, by simpa using g2, by simpa using g3, by simpa using g4⟩, ⟨sn, st3, st4⟩, fun z hz => ?_⟩
            rcases List.mem_cons.1 hz with rfl | hz
            · rcases wt2 with h0 | ⟨o, ho, hle⟩
              · exact .inl (by rw [sn.len]; exact h0)
              · obtain ⟨y, hy, hy2⟩ := inE 2 _ _ rfl rfl o ho
                exact .inr ⟨y, hy, o, hy2, by dsimp only; rw [sn.len]; exact hle⟩
            · rcases List.mem_append.1 hz with hz | hz
              · rcases wt3 z hz with h0 | ⟨o, ho, hle⟩
                · exact .inl h0
                · obtain ⟨y, hy, hy2⟩ := inE 3 _ _ rfl rfl o ho
                  exact .inr ⟨y, hy, o, hy2, hle⟩
              · rcases wt4 z hz with h0 | ⟨o, ho, hle⟩
                · exact .inl h0
                · obtain ⟨y, hy, hy2⟩ := inE 4 _ _ rfl rfl o ho
                  exact .inr ⟨y, hy, o, hy2, hle⟩
      obtain ⟨q, hq⟩ := choose_lt each
      refine ⟨⟨some a, len, cap⟩, CT.ofL ((List.range len).map q), h1, ⟨by rw [CT.ofL_len]; simp, (fun e => by cases e), hl, fun ad e => ?_⟩, fun z hz => ?_⟩
      · cases e
        refine ctm_ofL _ 0 (fun i hi => ?_)
        have hi' : i < len := by simpa using hi
        have e : ((List.range len).map q).getD i cz = q i := by
          rw [List.getD_eq_getElem?_getD, List.getElem?_map, List.getElem?_range hi']; rfl
        rw [e, Nat.zero_add, add_nr _ _ 1 (by decide), add_nr _ _ 2 (by decide), add_nr _ _ 3 (by decide), add_nr _ _ 4 (by decide)]
        exact ⟨(hq i hi').1, (hq i hi').2.1⟩
      · obtain ⟨x0, hx0, hz0⟩ := ofL_pre _ z hz
        obtain ⟨i, hi, rfl⟩ := List.mem_map.1 hx0
        rcases (hq i (List.mem_range.1 hi)).2.2 z hz0 with h0 | ⟨y, hy, o, ho, hle⟩
        · exact .inl h0
        · refine .inr ⟨o, ?_, hle⟩
          rw [hxx]
          simp only [DataW.weights, Try.underlying28]
          exact List.mem_cons_of_mem _ (List.mem_append_left _ (weightsAll_mem _ y.1 (List.mem_map.2 ⟨y, hy, rfl⟩) o ho))
set_option maxRecDepth 100000 in
theorem open_pgw {r : Reach} {b0 : Nat} {v : Value} {d : DataW H} {p : List MemPlace} (hv : Value.okWide Try.prog w r b0 31 v) (h : DataW.Trod enc Try.prog w 0 (fun _ => true) true 31 v d p) :
    ∃ (X : Tb.PX) (P : Tb.Pg) (T : CT), v = .agg #[.string X.nm, .slice X.ha X.hn X.hc, .slice X.ma X.mn X.mc, .slice X.ra X.rn X.rc, .slice X.aa X.an X.ac, .slice X.ta X.tn X.tc, .slice X.sa X.sn X.sc, .slice X.ca X.cn X.cc, .slice X.da X.dn X.dc] ∧ Tb.SP w X P ∧ ST w ⟨X.ca, X.cn, X.cc⟩ T ∧ WtT (d.weights Try.prog 31) T := by
  obtain ⟨X, P, e, sp, _⟩ := Tb.open_pg hv h
  subst e
  obtain ⟨fuel, hf⟩ := h
  obtain ⟨xs, n, _, hx, _, hlen, pg⟩ := DataW.trod_struct Try.underlying31 hf
  match xs, hlen with
  | [q0, q1, q2, q3, q4, q5, q6, q7, q8], _ =>
    have e1 : DataW.trod enc Try.prog w 0 (fun _ => true) true n 28 (([.string X.nm, .slice X.ha X.hn X.hc, .slice X.ma X.mn X.mc, .slice X.ra X.rn X.rc, .slice X.aa X.an X.ac, .slice X.ta X.tn X.tc, .slice X.sa X.sn X.sc, .slice X.ca X.cn X.cc, .slice X.da X.dn X.dc].drop 7).take (Try.prog.cellsOf 28)) = some q7 := pg 7 _ rfl
    rw [show Try.prog.cellsOf 28 = 1 from by kernel_rfl] at e1
    have e2 : DataW.trod enc Try.prog w 0 (fun _ => true) true n 28 [.slice X.ca X.cn X.cc] = some q7 := e1
    have hd' : d = .agg [q0.1, q1.1, q2.1, q3.1, q4.1, q5.1, q6.1, q7.1, q8.1] := (Prod.mk.inj hx).1
    obtain ⟨s, T, es, st, wt⟩ := open_ctw (n + 1) n _ _ (by omega) e2
    obtain ⟨a, m, c⟩ := s
    injection es with h1 h2 h3
    dsimp only at h1 h2 h3
    subst h1 h2 h3
    refine ⟨X, P, T, rfl, sp, st, fun z hz => ?_⟩
    rcases wt z hz with h0 | ⟨o, ho, hle⟩
    · exact .inl h0
    · refine .inr ⟨o, ?_, hle⟩
      rw [hd']
      have := DataW.weights_mem_each (ts := [9, 22, 23, 24, 25, 26, 27, 28, 29]) (ds := [q0.1, q1.1, q2.1, q3.1, q4.1, q5.1, q6.1, q7.1, q8.1]) (j := 7) rfl rfl o ho
      simpa [DataW.weights, Try.underlying31] using this
theorem pgw_fits {d : DataW H} {T : CT} {t : TypeId} (h : WtT (d.weights Try.prog t) T) {ts : List TypeId} {ds : List (DataW H)} {j : Nat} (ht : ts[j]? = some t) (hd : ds[j]? = some d) (hsz : (DataW.weightsEach Try.prog ts ds).all (· ≤ reachBytes) = true) : ∀ z ∈ T.pre, z.N.length ≤ 5864062014634 := by
  intro z hz
  rcases h z hz with h0 | ⟨o, ho, hle⟩
  · omega
  · have q := of_decide_eq_true (List.all_eq_true.1 hsz _ (DataW.weights_mem_each ht hd o ho))
    have r : reachBytes = 140737488351232 := rfl
    omega
end
end Go.Proofs.Ytfjeonoihdgdoaa
end
section
/- How a row of truth values as an argument is opened; no condition. -/
namespace Go.Proofs.Ytfjeonoihdgdoaa
open Go.ChangeShapes Go.WideShapes Go.ChangeAt Go.RowKit Go.Joins Go.Deep
set_option linter.unusedVariables false
set_option maxRecDepth 100000 in
theorem open_bools {H : Type} {enc : TypeId × Value → H} {w : World} {r : Reach} {b0 : Nat} {v : Value} {d : DataW H} {p : List MemPlace} (hv : Value.okWide Try.prog w r b0 33 v) (h : DataW.Trod enc Try.prog w 0 (fun _ => true) true 33 v d p) :
    ∃ (s : Sl) (L : List Bool), v = .slice s.a s.n s.c ∧ SB w s.a s.n s.c L := by
  obtain ⟨a0, len0, cap0, rfl⟩ := okWide_slice Try.underlying33 hv
  obtain ⟨fuel, hf⟩ := h
  obtain ⟨a, l, c, L, e, sb⟩ := open_sb hf
  exact ⟨⟨a, l, c⟩, L, e, sb⟩
end Go.Proofs.Ytfjeonoihdgdoaa
end
