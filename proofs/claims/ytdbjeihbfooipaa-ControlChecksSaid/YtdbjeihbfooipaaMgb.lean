/- The texts TgA, TgB, TgM, TgN, CnU, CnV, CnW, CnR, FrK, CnX in one; no condition. -/
import Derived.Test.YtdbjeihbfooipaaExB
import Derived.Test.YtdbjeihbfooipaaExG
import Derived.Test.YtdbjeihbfooipaaFrE
import Derived.Deep.SlicePairs
import Derived.Deep.Slices
import Derived.Deep.Fields
import Derived.ChangeSame
import Derived.Test.YtdbjeihbfooipaaMga
import Derived.Test.YtdbjeihbfooipaaCnJ
import Derived.Test.YtdbjeihbfooipaaExWh
import Derived.Test.YtdbjeihbfooipaaCnG
import Derived.Test.YtdbjeihbfooipaaCnM
section
/- A program in memory: what its lists read as; no condition. -/
namespace Go.Proofs.Ytdbjeihbfooipaa.Tb
open Go.RowKit
set_option linter.unusedVariables false
/-- A slice of structs of K cells that reads as a list. -/
structure SL {α : Type} (K : Nat) (z : α) (C : World → Addr → α → Prop) (w : World) (a : Option Addr) (n c : Nat) (L : List α) : Prop where
  len : L.length = n
  nil : a = none → n = 0 ∧ c = 0
  cap : n ≤ c
  cells : ∀ ad, a = some ad → ∀ j, j < n → C w (ad.add (j * K)) (L.getD j z)
theorem SL.some {α : Type} {K : Nat} {z : α} {C : World → Addr → α → Prop} {w : World} {a : Option Addr} {n c : Nat} {L : List α} (h : SL K z C w a n c L) (hn : 0 < n) : ∃ ad, a = some ad := by
  cases a with
  | none => have := (h.nil rfl).1; omega
  | some ad => exact ⟨ad, rfl⟩
theorem SL.keep {α : Type} {K : Nat} {z : α} {C : World → Addr → α → Prop} {w w2 : World} {a : Option Addr} {n c : Nat} {L : List α} (h : SL K z C w a n c L) (k : ∀ b x, C w b x → C w2 b x) : SL K z C w2 a n c L :=
  ⟨h.len, h.nil, h.cap, fun ad e j hj => k _ _ (h.cells ad e j hj)⟩
theorem sl_nil {α : Type} {K : Nat} {z : α} {C : World → Addr → α → Prop} (w : World) : SL K z C w none 0 0 [] := ⟨rfl, fun _ => ⟨rfl, rfl⟩, Nat.le_refl _, fun ad e => by cases e⟩
/-- A slice of numbers. -/
structure SI (w : World) (a : Option Addr) (n c : Nat) (L : List Int) : Prop where
  len : L.length = n
  nil : a = none → n = 0 ∧ c = 0
  cap : n ≤ c
  cells : ∀ ad, a = some ad → ∀ j, j < n → w.cell? (ad.add j) = some (.int .i64 (L.getD j 0))
  rng : ∀ x ∈ L, -9223372036854775808 ≤ x ∧ x ≤ 9223372036854775807
theorem SI.keep0 {w w2 : World} {a : Option Addr} {n c : Nat} {L : List Int} (h : SI w a n c L) (k : w.grownBy w2 none) : SI w2 a n c L :=
  ⟨h.len, h.nil, h.cap, fun ad e j hj => k.cell (h.cells ad e j hj) (by simp), h.rng⟩
theorem SI.some {w : World} {a : Option Addr} {n c : Nat} {L : List Int} (h : SI w a n c L) (hn : 0 < n) : ∃ ad, a = some ad := by
  cases a with
  | none => have := (h.nil rfl).1; omega
  | some ad => exact ⟨ad, rfl⟩
theorem si_nil (w : World) : SI w none 0 0 [] := ⟨rfl, fun _ => ⟨rfl, rfl⟩, Nat.le_refl _, (fun ad e => by cases e), fun x hx => by cases hx⟩
theorem SI.at_ {w : World} {a : Option Addr} {n c : Nat} {L : List Int} (h : SI w a n c L) (j : Nat) : -9223372036854775808 ≤ L.getD j 0 ∧ L.getD j 0 ≤ 9223372036854775807 := by
  by_cases hj : j < L.length
  · rw [List.getD_eq_getElem?_getD, List.getElem?_eq_getElem hj]; exact h.rng _ (List.getElem_mem _)
  · rw [List.getD_eq_getElem?_getD, List.getElem?_eq_none (by omega)]; decide
structure TKy where
  h : Int
  f : Int
  k : Int
def tkz : TKy := ⟨0, 0, 0⟩
def CKy (w : World) (b : Addr) (x : TKy) : Prop := w.cell? b = some (.int .i64 x.h) ∧ w.cell? ⟨b.block, b.off + 1, none⟩ = some (.int .i64 x.f) ∧ w.cell? ⟨b.block, b.off + 2, none⟩ = some (.int .i64 x.k)
abbrev SKy (w : World) (a : Option Addr) (n c : Nat) (L : List TKy) : Prop := SL 3 tkz CKy w a n c L
theorem CKy.keep {w w2 : World} {b : Addr} {x : TKy} (h : CKy w b x) (k : w.grownBy w2 none) : CKy w2 b x := by
  obtain ⟨h0, h1, h2⟩ := h
  exact ⟨k.cell h0 (by simp), k.cell h1 (by simp), k.cell h2 (by simp)⟩
theorem SL.keep0SKy {w w2 : World} {a : Option Addr} {n c : Nat} {L : List TKy} (h : SKy w a n c L) (k : w.grownBy w2 none) : SKy w2 a n c L := h.keep fun _ _ q => CKy.keep q k
structure Cse where
  v : Int
  m : Int
  nx : Int
def csz : Cse := ⟨0, 0, 0⟩
def CCa (w : World) (b : Addr) (x : Cse) : Prop := (w.cell? b = some (.int .u32 x.v) ∧ 0 ≤ x.v ∧ x.v < 4294967296) ∧ (w.cell? ⟨b.block, b.off + 1, none⟩ = some (.int .u32 x.m) ∧ 0 ≤ x.m ∧ x.m < 4294967296) ∧ w.cell? ⟨b.block, b.off + 2, none⟩ = some (.int .i64 x.nx)
abbrev SCa (w : World) (a : Option Addr) (n c : Nat) (L : List Cse) : Prop := SL 3 csz CCa w a n c L
theorem CCa.keep {w w2 : World} {b : Addr} {x : Cse} (h : CCa w b x) (k : w.grownBy w2 none) : CCa w2 b x := by
  obtain ⟨h0, h1, h2⟩ := h
  exact ⟨⟨k.cell h0.1 (by simp), h0.2⟩, ⟨k.cell h1.1 (by simp), h1.2⟩, k.cell h2 (by simp)⟩
theorem SL.keep0SCa {w w2 : World} {a : Option Addr} {n c : Nat} {L : List Cse} (h : SCa w a n c L) (k : w.grownBy w2 none) : SCa w2 a n c L := h.keep fun _ _ q => CCa.keep q k
structure Stm where
  k : Int
  h : Int
  f : Int
  r : Int
  hd : Int
  ix : List Nd
  vl : List Nd
def smz : Stm := ⟨0, 0, 0, 0, 0, [], []⟩
def CSm (w : World) (b : Addr) (x : Stm) : Prop := w.cell? b = some (.int .i64 x.k) ∧ w.cell? ⟨b.block, b.off + 1, none⟩ = some (.int .i64 x.h) ∧ w.cell? ⟨b.block, b.off + 2, none⟩ = some (.int .i64 x.f) ∧ w.cell? ⟨b.block, b.off + 3, none⟩ = some (.int .i64 x.r) ∧ w.cell? ⟨b.block, b.off + 4, none⟩ = some (.int .i64 x.hd) ∧ (∃ a n c, w.cell? ⟨b.block, b.off + 5, none⟩ = some (.slice a n c) ∧ SN w a n c x.ix) ∧ (∃ a n c, w.cell? ⟨b.block, b.off + 6, none⟩ = some (.slice a n c) ∧ SN w a n c x.vl)
abbrev SSm (w : World) (a : Option Addr) (n c : Nat) (L : List Stm) : Prop := SL 7 smz CSm w a n c L
theorem CSm.keep {w w2 : World} {b : Addr} {x : Stm} (h : CSm w b x) (k : w.grownBy w2 none) : CSm w2 b x := by
  obtain ⟨h0, h1, h2, h3, h4, h5, h6⟩ := h
  exact ⟨k.cell h0 (by simp), k.cell h1 (by simp), k.cell h2 (by simp), k.cell h3 (by simp), k.cell h4 (by simp), (by obtain ⟨a, n, c, e, s⟩ := h5; exact ⟨a, n, c, k.cell e (by simp), s.keep0 k⟩), (by obtain ⟨a, n, c, e, s⟩ := h6; exact ⟨a, n, c, k.cell e (by simp), s.keep0 k⟩)⟩
theorem SL.keep0SSm {w w2 : World} {a : Option Addr} {n c : Nat} {L : List Stm} (h : SSm w a n c L) (k : w.grownBy w2 none) : SSm w2 a n c L := h.keep fun _ _ q => CSm.keep q k
structure Rgr where
  nm : ByteArray
  wd : Int
  sz : Int
def rgz : Rgr := ⟨⟨#[]⟩, 0, 0⟩
def CRg (w : World) (b : Addr) (x : Rgr) : Prop := w.cell? b = some (.string x.nm) ∧ w.cell? ⟨b.block, b.off + 1, none⟩ = some (.int .i64 x.wd) ∧ w.cell? ⟨b.block, b.off + 2, none⟩ = some (.int .i64 x.sz)
abbrev SRg (w : World) (a : Option Addr) (n c : Nat) (L : List Rgr) : Prop := SL 3 rgz CRg w a n c L
theorem CRg.keep {w w2 : World} {b : Addr} {x : Rgr} (h : CRg w b x) (k : w.grownBy w2 none) : CRg w2 b x := by
  obtain ⟨h0, h1, h2⟩ := h
  exact ⟨k.cell h0 (by simp), k.cell h1 (by simp), k.cell h2 (by simp)⟩
theorem SL.keep0SRg {w w2 : World} {a : Option Addr} {n c : Nat} {L : List Rgr} (h : SRg w a n c L) (k : w.grownBy w2 none) : SRg w2 a n c L := h.keep fun _ _ q => CRg.keep q k
structure Actn where
  nm : ByteArray
  ps : List Fld
  bd : List Stm
def anz : Actn := ⟨⟨#[]⟩, [], []⟩
def CAn (w : World) (b : Addr) (x : Actn) : Prop := w.cell? b = some (.string x.nm) ∧ (∃ a n c, w.cell? ⟨b.block, b.off + 1, none⟩ = some (.slice a n c) ∧ SF w a n c x.ps) ∧ (∃ a n c, w.cell? ⟨b.block, b.off + 2, none⟩ = some (.slice a n c) ∧ SSm w a n c x.bd)
abbrev SAn (w : World) (a : Option Addr) (n c : Nat) (L : List Actn) : Prop := SL 3 anz CAn w a n c L
theorem CAn.keep {w w2 : World} {b : Addr} {x : Actn} (h : CAn w b x) (k : w.grownBy w2 none) : CAn w2 b x := by
  obtain ⟨h0, h1, h2⟩ := h
  exact ⟨k.cell h0 (by simp), (by obtain ⟨a, n, c, e, s⟩ := h1; exact ⟨a, n, c, k.cell e (by simp), s.keep0 k⟩), (by obtain ⟨a, n, c, e, s⟩ := h2; exact ⟨a, n, c, k.cell e (by simp), s.keep0SSm k⟩)⟩
theorem SL.keep0SAn {w w2 : World} {a : Option Addr} {n c : Nat} {L : List Actn} (h : SAn w a n c L) (k : w.grownBy w2 none) : SAn w2 a n c L := h.keep fun _ _ q => CAn.keep q k
structure Tbl where
  nm : ByteArray
  ks : List TKy
  acs : List Int
  da : Int
  ar : List Int
  sz : Int
def tbz : Tbl := ⟨⟨#[]⟩, [], [], 0, [], 0⟩
def CTb (w : World) (b : Addr) (x : Tbl) : Prop := w.cell? b = some (.string x.nm) ∧ (∃ a n c, w.cell? ⟨b.block, b.off + 1, none⟩ = some (.slice a n c) ∧ SKy w a n c x.ks) ∧ (∃ a n c, w.cell? ⟨b.block, b.off + 2, none⟩ = some (.slice a n c) ∧ SI w a n c x.acs) ∧ (w.cell? ⟨b.block, b.off + 3, none⟩ = some (.int .i64 x.da) ∧ -9223372036854775808 ≤ x.da ∧ x.da ≤ 9223372036854775807) ∧ (∃ a n c, w.cell? ⟨b.block, b.off + 4, none⟩ = some (.slice a n c) ∧ SU w a n c x.ar) ∧ w.cell? ⟨b.block, b.off + 5, none⟩ = some (.int .i64 x.sz)
abbrev STb (w : World) (a : Option Addr) (n c : Nat) (L : List Tbl) : Prop := SL 6 tbz CTb w a n c L
theorem CTb.keep {w w2 : World} {b : Addr} {x : Tbl} (h : CTb w b x) (k : w.grownBy w2 none) : CTb w2 b x := by
  obtain ⟨h0, h1, h2, h3, h4, h5⟩ := h
  exact ⟨k.cell h0 (by simp), (by obtain ⟨a, n, c, e, s⟩ := h1; exact ⟨a, n, c, k.cell e (by simp), s.keep0SKy k⟩), (by obtain ⟨a, n, c, e, s⟩ := h2; exact ⟨a, n, c, k.cell e (by simp), s.keep0 k⟩), ⟨k.cell h3.1 (by simp), h3.2⟩, (by obtain ⟨a, n, c, e, s⟩ := h4; exact ⟨a, n, c, k.cell e (by simp), s.keep0 k⟩), k.cell h5 (by simp)⟩
theorem SL.keep0STb {w w2 : World} {a : Option Addr} {n c : Nat} {L : List Tbl} (h : STb w a n c L) (k : w.grownBy w2 none) : STb w2 a n c L := h.keep fun _ _ q => CTb.keep q k
structure Pst where
  nm : ByteArray
  ex : List Int
  sl : Bool
  h : Int
  f : Int
  cs : List Cse
  df : Int
def psz : Pst := ⟨⟨#[]⟩, [], false, 0, 0, [], 0⟩
def CPs (w : World) (b : Addr) (x : Pst) : Prop := w.cell? b = some (.string x.nm) ∧ (∃ a n c, w.cell? ⟨b.block, b.off + 1, none⟩ = some (.slice a n c) ∧ SI w a n c x.ex) ∧ w.cell? ⟨b.block, b.off + 2, none⟩ = some (.bool x.sl) ∧ w.cell? ⟨b.block, b.off + 3, none⟩ = some (.int .i64 x.h) ∧ w.cell? ⟨b.block, b.off + 4, none⟩ = some (.int .i64 x.f) ∧ (∃ a n c, w.cell? ⟨b.block, b.off + 5, none⟩ = some (.slice a n c) ∧ SCa w a n c x.cs) ∧ w.cell? ⟨b.block, b.off + 6, none⟩ = some (.int .i64 x.df)
abbrev SPs (w : World) (a : Option Addr) (n c : Nat) (L : List Pst) : Prop := SL 7 psz CPs w a n c L
theorem CPs.keep {w w2 : World} {b : Addr} {x : Pst} (h : CPs w b x) (k : w.grownBy w2 none) : CPs w2 b x := by
  obtain ⟨h0, h1, h2, h3, h4, h5, h6⟩ := h
  exact ⟨k.cell h0 (by simp), (by obtain ⟨a, n, c, e, s⟩ := h1; exact ⟨a, n, c, k.cell e (by simp), s.keep0 k⟩), k.cell h2 (by simp), k.cell h3 (by simp), k.cell h4 (by simp), (by obtain ⟨a, n, c, e, s⟩ := h5; exact ⟨a, n, c, k.cell e (by simp), s.keep0SCa k⟩), k.cell h6 (by simp)⟩
theorem SL.keep0SPs {w w2 : World} {a : Option Addr} {n c : Nat} {L : List Pst} (h : SPs w a n c L) (k : w.grownBy w2 none) : SPs w2 a n c L := h.keep fun _ _ q => CPs.keep q k
/-- Where a program lies. -/
structure PX where
  nm : ByteArray
  ha : Option Addr
  (hn hc : Nat)
  ma : Option Addr
  (mn mc : Nat)
  ra : Option Addr
  (rn rc : Nat)
  aa : Option Addr
  (an ac : Nat)
  ta : Option Addr
  (tn tc : Nat)
  sa : Option Addr
  (sn sc : Nat)
  ca : Option Addr
  (cn cc : Nat)
  da : Option Addr
  (dn dc : Nat)
/-- What it is: all but its control flow. -/
structure Pg where
  H : List (ByteArray × List Fld)
  M : List Fld
  R : List Rgr
  A : List Actn
  T : List Tbl
  S : List Pst
  D : List Int
structure SP (w : World) (X : PX) (P : Pg) : Prop where
  h : SH w X.ha X.hn X.hc P.H
  m : SF w X.ma X.mn X.mc P.M
  r : SRg w X.ra X.rn X.rc P.R
  a : SAn w X.aa X.an X.ac P.A
  t : STb w X.ta X.tn X.tc P.T
  s : SPs w X.sa X.sn X.sc P.S
  d : SI w X.da X.dn X.dc P.D
theorem SP.keep0 {w w2 : World} {X : PX} {P : Pg} (h : SP w X P) (k : w.grownBy w2 none) : SP w2 X P := ⟨h.h.keep0 k, h.m.keep0 k, h.r.keep0SRg k, h.a.keep0SAn k, h.t.keep0STb k, h.s.keep0SPs k, h.d.keep0 k⟩
end Go.Proofs.Ytdbjeihbfooipaa.Tb
end
section
/- How a program is opened as an argument; no condition. -/
namespace Go.Proofs.Ytdbjeihbfooipaa.Tb
open Go.ChangeShapes Go.WideShapes Go.ChangeAt Go.RowKit Go.Joins Go.Deep
set_option linter.unusedVariables false
section
variable {H : Type} {enc : TypeId × Value → H} {w : World}
theorem shape_sl {t e : TypeId} {n : Nat} {v : Value} {x : DataW H × List MemPlace} (ht : Try.prog.underlying t = some (.slice e)) (h : DataW.trod enc Try.prog w 0 (fun _ => true) true n t [v] = some x) : ∃ a l c, v = .slice a l c := by
  rcases open_slice ht h with ⟨hcs, _⟩ | ⟨a, len, cap, m, n, D, Pl, hcs, _⟩
  · injection hcs with h1 _; exact ⟨_, _, _, h1⟩
  · injection hcs with h1 _; exact ⟨_, _, _, h1⟩
theorem open_si {n : Nat} {v : Value} {x : DataW H × List MemPlace} (h : DataW.trod enc Try.prog w 0 (fun _ => true) true n 29 [v] = some x) : ∃ a l c L, v = .slice a l c ∧ SI w a l c L := by
  rcases open_ones Try.underlying29 (by kernel_rfl) h with rfl | ⟨a, l, c, k, V, rfl, hl, hV⟩
  · exact ⟨_, _, _, [], rfl, si_nil _⟩
  · have each : ∀ i, i < l → ∃ z : Int, w.cell? (a.add i) = some (.int .i64 z) ∧ -9223372036854775808 ≤ z ∧ z ≤ 9223372036854775807 := by
      intro i hi
      obtain ⟨h1, y, h2⟩ := hV i hi
      obtain ⟨z, e, _, wf⟩ := DataW.trod_int Try.underlying3 h2
      injection e with e _
      rw [e] at h1
      exact ⟨z, h1, i64_bd wf⟩
    obtain ⟨Z, hZ⟩ := choose_lt each
    refine ⟨_, _, _, (List.range l).map Z, rfl, by simp, (fun e => by cases e), hl, fun ad e j hj => ?_, fun y hy => ?_⟩
    · cases e
      have e : ((List.range l).map Z).getD j 0 = Z j := by simp [hj]
      rw [e]; exact (hZ j hj).1
    · obtain ⟨j, hj, rfl⟩ := List.mem_map.1 hy
      exact (hZ j (List.mem_range.1 hj)).2
/-- A slice of structs, by how one of them is opened. -/
theorem open_sl {α : Type} {K : Nat} {z : α} {C : World → Addr → α → Prop} {t e : TypeId} (ht : Try.prog.underlying t = some (.slice e)) (ce : Try.prog.cellsOf e = K)
    (hE : ∀ (n : Nat) (cs : List Value) (y : DataW H × List MemPlace) (b : Addr), cs.length = K → (∀ i u, cs[i]? = some u → w.cell? (b.add i) = some u) → DataW.trod enc Try.prog w 0 (fun _ => true) true n e cs = some y → ∃ x : α, C w b x)
    {n : Nat} {v : Value} {x : DataW H × List MemPlace} (h : DataW.trod enc Try.prog w 0 (fun _ => true) true n t [v] = some x) : ∃ a l c L, v = .slice a l c ∧ SL K z C w a l c L := by
  rcases open_slice ht h with ⟨hcs, _⟩ | ⟨a, len, cap, m, k, D, Pl, hcs, _, hl, _, hm, _, hx⟩
  · injection hcs with h1 _
    exact ⟨_, _, _, [], h1, sl_nil _⟩
  · injection hcs with h1 _
    rw [ce] at hx
    have each : ∀ i, i < len → ∃ q : α, C w (a.add (i * K)) q := by
      intro i hi
      obtain ⟨cs', hc, ht'⟩ := hx i (by rw [hm]; simp; omega)
      obtain ⟨_, hcl, hat⟩ := World.cells?_some hc
      refine hE _ cs' _ _ hcl (fun j u hu => ?_) ht'
      have hj : j < cs'.length := (List.getElem?_eq_some_iff.1 hu).1
      have g := hat (i := j) (by omega)
      rw [g, hu]
    haveI : Inhabited α := ⟨z⟩
    obtain ⟨q, hq⟩ := choose_lt each
    refine ⟨_, _, _, (List.range len).map q, h1, by simp, (fun e => by cases e), hl, fun ad e j hj => ?_⟩
    cases e
    have e : ((List.range len).map q).getD j z = q j := by simp [hj]
    rw [e]
    exact hq j hj
theorem el_TKy (n : Nat) (cs : List Value) (y : DataW H × List MemPlace) (b : Addr) (hl : cs.length = 3) (hat : ∀ i u, cs[i]? = some u → w.cell? (b.add i) = some u) (h : DataW.trod enc Try.prog w 0 (fun _ => true) true n 259 cs = some y) : ∃ x : TKy, CKy w b x := by
  match cs, hl with
  | [q0, q1, q2], _ =>
    have g0 := hat 0 q0 rfl
    have g1 := hat 1 q1 rfl
    have g2 := hat 2 q2 rfl
    obtain ⟨xs, n1, _, _, _, hlen, hg⟩ := DataW.trod_struct Try.underlying259 h
    match xs, hlen with
    | [y0, y1], _ =>
      have p0 : DataW.trod enc Try.prog w 0 (fun _ => true) true n1 48 [q0, q1] = some y0 := by
        have q : DataW.trod enc Try.prog w 0 (fun _ => true) true n1 48 (([q0, q1, q2].drop 0).take (Try.prog.cellsOf 48)) = some y0 := hg 0 _ rfl
        rw [show Try.prog.cellsOf 48 = 2 from by kernel_rfl] at q
        exact q
      obtain ⟨zs0, m0, _, _, _, zlen0, zg0⟩ := DataW.trod_struct Try.underlying48 p0
      match zs0, zlen0 with
      | [z0_0, z0_1], _ =>
      have p0_0 : DataW.trod enc Try.prog w 0 (fun _ => true) true m0 3 [q0] = some z0_0 := by
        have q : DataW.trod enc Try.prog w 0 (fun _ => true) true m0 3 (([q0, q1].drop 0).take (Try.prog.cellsOf 3)) = some z0_0 := zg0 0 _ rfl
        rw [show Try.prog.cellsOf 3 = 1 from by kernel_rfl] at q
        exact q
      have p0_1 : DataW.trod enc Try.prog w 0 (fun _ => true) true m0 3 [q1] = some z0_1 := by
        have q : DataW.trod enc Try.prog w 0 (fun _ => true) true m0 3 (([q0, q1].drop 1).take (Try.prog.cellsOf 3)) = some z0_1 := zg0 1 _ rfl
        rw [show Try.prog.cellsOf 3 = 1 from by kernel_rfl] at q
        exact q
      have p1 : DataW.trod enc Try.prog w 0 (fun _ => true) true n1 3 [q2] = some y1 := by
        have q : DataW.trod enc Try.prog w 0 (fun _ => true) true n1 3 (([q0, q1, q2].drop 2).take (Try.prog.cellsOf 3)) = some y1 := hg 1 _ rfl
        rw [show Try.prog.cellsOf 3 = 1 from by kernel_rfl] at q
        exact q
      obtain ⟨a0, e0, _, w0⟩ := DataW.trod_int Try.underlying3 p0_0
      injection e0 with e0 _
      subst e0
      obtain ⟨a1, e1, _, w1⟩ := DataW.trod_int Try.underlying3 p0_1
      injection e1 with e1 _
      subst e1
      obtain ⟨a2, e2, _, w2⟩ := DataW.trod_int Try.underlying3 p1
      injection e2 with e2 _
      subst e2
      exact ⟨⟨a0, a1, a2⟩, g0, g1, g2⟩
theorem open_sky {n : Nat} {v : Value} {x : DataW H × List MemPlace} (h : DataW.trod enc Try.prog w 0 (fun _ => true) true n 126 [v] = some x) : ∃ a l c L, v = .slice a l c ∧ SKy w a l c L := open_sl Try.underlying126 (by kernel_rfl) el_TKy h
theorem el_Cse (n : Nat) (cs : List Value) (y : DataW H × List MemPlace) (b : Addr) (hl : cs.length = 3) (hat : ∀ i u, cs[i]? = some u → w.cell? (b.add i) = some u) (h : DataW.trod enc Try.prog w 0 (fun _ => true) true n 261 cs = some y) : ∃ x : Cse, CCa w b x := by
  match cs, hl with
  | [q0, q1, q2], _ =>
    have g0 := hat 0 q0 rfl
    have g1 := hat 1 q1 rfl
    have g2 := hat 2 q2 rfl
    obtain ⟨xs, n1, _, _, _, hlen, hg⟩ := DataW.trod_struct Try.underlying261 h
    match xs, hlen with
    | [y0, y1, y2], _ =>
      have p0 : DataW.trod enc Try.prog w 0 (fun _ => true) true n1 45 [q0] = some y0 := by
        have q : DataW.trod enc Try.prog w 0 (fun _ => true) true n1 45 (([q0, q1, q2].drop 0).take (Try.prog.cellsOf 45)) = some y0 := hg 0 _ rfl
        rw [show Try.prog.cellsOf 45 = 1 from by kernel_rfl] at q
        exact q
      have p1 : DataW.trod enc Try.prog w 0 (fun _ => true) true n1 45 [q1] = some y1 := by
        have q : DataW.trod enc Try.prog w 0 (fun _ => true) true n1 45 (([q0, q1, q2].drop 1).take (Try.prog.cellsOf 45)) = some y1 := hg 1 _ rfl
        rw [show Try.prog.cellsOf 45 = 1 from by kernel_rfl] at q
        exact q
      have p2 : DataW.trod enc Try.prog w 0 (fun _ => true) true n1 3 [q2] = some y2 := by
        have q : DataW.trod enc Try.prog w 0 (fun _ => true) true n1 3 (([q0, q1, q2].drop 2).take (Try.prog.cellsOf 3)) = some y2 := hg 2 _ rfl
        rw [show Try.prog.cellsOf 3 = 1 from by kernel_rfl] at q
        exact q
      obtain ⟨a0, e0, _, w0⟩ := DataW.trod_int Try.underlying45 p0
      injection e0 with e0 _
      subst e0
      obtain ⟨a1, e1, _, w1⟩ := DataW.trod_int Try.underlying45 p1
      injection e1 with e1 _
      subst e1
      obtain ⟨a2, e2, _, w2⟩ := DataW.trod_int Try.underlying3 p2
      injection e2 with e2 _
      subst e2
      exact ⟨⟨a0, a1, a2⟩, ⟨g0, (u32_bd w0).1, (u32_bd w0).2⟩, ⟨g1, (u32_bd w1).1, (u32_bd w1).2⟩, g2⟩
theorem open_sca {n : Nat} {v : Value} {x : DataW H × List MemPlace} (h : DataW.trod enc Try.prog w 0 (fun _ => true) true n 131 [v] = some x) : ∃ a l c L, v = .slice a l c ∧ SCa w a l c L := open_sl Try.underlying131 (by kernel_rfl) el_Cse h
theorem el_Stm (n : Nat) (cs : List Value) (y : DataW H × List MemPlace) (b : Addr) (hl : cs.length = 7) (hat : ∀ i u, cs[i]? = some u → w.cell? (b.add i) = some u) (h : DataW.trod enc Try.prog w 0 (fun _ => true) true n 171 cs = some y) : ∃ x : Stm, CSm w b x := by
  match cs, hl with
  | [q0, q1, q2, q3, q4, q5, q6], _ =>
    have g0 := hat 0 q0 rfl
    have g1 := hat 1 q1 rfl
    have g2 := hat 2 q2 rfl
    have g3 := hat 3 q3 rfl
    have g4 := hat 4 q4 rfl
    have g5 := hat 5 q5 rfl
    have g6 := hat 6 q6 rfl
    obtain ⟨xs, n1, _, _, _, hlen, hg⟩ := DataW.trod_struct Try.underlying171 h
    match xs, hlen with
    | [y0, y1, y2, y3, y4, y5], _ =>
      have p0 : DataW.trod enc Try.prog w 0 (fun _ => true) true n1 3 [q0] = some y0 := by
        have q : DataW.trod enc Try.prog w 0 (fun _ => true) true n1 3 (([q0, q1, q2, q3, q4, q5, q6].drop 0).take (Try.prog.cellsOf 3)) = some y0 := hg 0 _ rfl
        rw [show Try.prog.cellsOf 3 = 1 from by kernel_rfl] at q
        exact q
      have p1 : DataW.trod enc Try.prog w 0 (fun _ => true) true n1 48 [q1, q2] = some y1 := by
        have q : DataW.trod enc Try.prog w 0 (fun _ => true) true n1 48 (([q0, q1, q2, q3, q4, q5, q6].drop 1).take (Try.prog.cellsOf 48)) = some y1 := hg 1 _ rfl
        rw [show Try.prog.cellsOf 48 = 2 from by kernel_rfl] at q
        exact q
      obtain ⟨zs1, m1, _, _, _, zlen1, zg1⟩ := DataW.trod_struct Try.underlying48 p1
      match zs1, zlen1 with
      | [z1_0, z1_1], _ =>
      have p1_0 : DataW.trod enc Try.prog w 0 (fun _ => true) true m1 3 [q1] = some z1_0 := by
        have q : DataW.trod enc Try.prog w 0 (fun _ => true) true m1 3 (([q1, q2].drop 0).take (Try.prog.cellsOf 3)) = some z1_0 := zg1 0 _ rfl
        rw [show Try.prog.cellsOf 3 = 1 from by kernel_rfl] at q
        exact q
      have p1_1 : DataW.trod enc Try.prog w 0 (fun _ => true) true m1 3 [q2] = some z1_1 := by
        have q : DataW.trod enc Try.prog w 0 (fun _ => true) true m1 3 (([q1, q2].drop 1).take (Try.prog.cellsOf 3)) = some z1_1 := zg1 1 _ rfl
        rw [show Try.prog.cellsOf 3 = 1 from by kernel_rfl] at q
        exact q
      have p2 : DataW.trod enc Try.prog w 0 (fun _ => true) true n1 3 [q3] = some y2 := by
        have q : DataW.trod enc Try.prog w 0 (fun _ => true) true n1 3 (([q0, q1, q2, q3, q4, q5, q6].drop 3).take (Try.prog.cellsOf 3)) = some y2 := hg 2 _ rfl
        rw [show Try.prog.cellsOf 3 = 1 from by kernel_rfl] at q
        exact q
      have p3 : DataW.trod enc Try.prog w 0 (fun _ => true) true n1 3 [q4] = some y3 := by
        have q : DataW.trod enc Try.prog w 0 (fun _ => true) true n1 3 (([q0, q1, q2, q3, q4, q5, q6].drop 4).take (Try.prog.cellsOf 3)) = some y3 := hg 3 _ rfl
        rw [show Try.prog.cellsOf 3 = 1 from by kernel_rfl] at q
        exact q
      have p4 : DataW.trod enc Try.prog w 0 (fun _ => true) true n1 32 [q5] = some y4 := by
        have q : DataW.trod enc Try.prog w 0 (fun _ => true) true n1 32 (([q0, q1, q2, q3, q4, q5, q6].drop 5).take (Try.prog.cellsOf 32)) = some y4 := hg 4 _ rfl
        rw [show Try.prog.cellsOf 32 = 1 from by kernel_rfl] at q
        exact q
      have p5 : DataW.trod enc Try.prog w 0 (fun _ => true) true n1 32 [q6] = some y5 := by
        have q : DataW.trod enc Try.prog w 0 (fun _ => true) true n1 32 (([q0, q1, q2, q3, q4, q5, q6].drop 6).take (Try.prog.cellsOf 32)) = some y5 := hg 5 _ rfl
        rw [show Try.prog.cellsOf 32 = 1 from by kernel_rfl] at q
        exact q
      obtain ⟨a0, e0, _, w0⟩ := DataW.trod_int Try.underlying3 p0
      injection e0 with e0 _
      subst e0
      obtain ⟨a1, e1, _, w1⟩ := DataW.trod_int Try.underlying3 p1_0
      injection e1 with e1 _
      subst e1
      obtain ⟨a2, e2, _, w2⟩ := DataW.trod_int Try.underlying3 p1_1
      injection e2 with e2 _
      subst e2
      obtain ⟨a3, e3, _, w3⟩ := DataW.trod_int Try.underlying3 p2
      injection e3 with e3 _
      subst e3
      obtain ⟨a4, e4, _, w4⟩ := DataW.trod_int Try.underlying3 p3
      injection e4 with e4 _
      subst e4
      obtain ⟨a5, l5, c5, L5, e5, s5⟩ := open_sn p4
      subst e5
      obtain ⟨a6, l6, c6, L6, e6, s6⟩ := open_sn p5
      subst e6
      exact ⟨⟨a0, a1, a2, a3, a4, L5, L6⟩, g0, g1, g2, g3, g4, ⟨_, _, _, g5, s5⟩, ⟨_, _, _, g6, s6⟩⟩
theorem open_ssm {n : Nat} {v : Value} {x : DataW H × List MemPlace} (h : DataW.trod enc Try.prog w 0 (fun _ => true) true n 123 [v] = some x) : ∃ a l c L, v = .slice a l c ∧ SSm w a l c L := open_sl Try.underlying123 (by kernel_rfl) el_Stm h
theorem el_Rgr (n : Nat) (cs : List Value) (y : DataW H × List MemPlace) (b : Addr) (hl : cs.length = 3) (hat : ∀ i u, cs[i]? = some u → w.cell? (b.add i) = some u) (h : DataW.trod enc Try.prog w 0 (fun _ => true) true n 121 cs = some y) : ∃ x : Rgr, CRg w b x := by
  match cs, hl with
  | [q0, q1, q2], _ =>
    have g0 := hat 0 q0 rfl
    have g1 := hat 1 q1 rfl
    have g2 := hat 2 q2 rfl
    obtain ⟨xs, n1, _, _, _, hlen, hg⟩ := DataW.trod_struct Try.underlying121 h
    match xs, hlen with
    | [y0, y1, y2], _ =>
      have p0 : DataW.trod enc Try.prog w 0 (fun _ => true) true n1 9 [q0] = some y0 := by
        have q : DataW.trod enc Try.prog w 0 (fun _ => true) true n1 9 (([q0, q1, q2].drop 0).take (Try.prog.cellsOf 9)) = some y0 := hg 0 _ rfl
        rw [show Try.prog.cellsOf 9 = 1 from by kernel_rfl] at q
        exact q
      have p1 : DataW.trod enc Try.prog w 0 (fun _ => true) true n1 3 [q1] = some y1 := by
        have q : DataW.trod enc Try.prog w 0 (fun _ => true) true n1 3 (([q0, q1, q2].drop 1).take (Try.prog.cellsOf 3)) = some y1 := hg 1 _ rfl
        rw [show Try.prog.cellsOf 3 = 1 from by kernel_rfl] at q
        exact q
      have p2 : DataW.trod enc Try.prog w 0 (fun _ => true) true n1 3 [q2] = some y2 := by
        have q : DataW.trod enc Try.prog w 0 (fun _ => true) true n1 3 (([q0, q1, q2].drop 2).take (Try.prog.cellsOf 3)) = some y2 := hg 2 _ rfl
        rw [show Try.prog.cellsOf 3 = 1 from by kernel_rfl] at q
        exact q
      obtain ⟨a0, e0, _, _⟩ := DataW.trod_string Try.underlying9 p0
      injection e0 with e0 _
      subst e0
      obtain ⟨a1, e1, _, w1⟩ := DataW.trod_int Try.underlying3 p1
      injection e1 with e1 _
      subst e1
      obtain ⟨a2, e2, _, w2⟩ := DataW.trod_int Try.underlying3 p2
      injection e2 with e2 _
      subst e2
      exact ⟨⟨a0, a1, a2⟩, g0, g1, g2⟩
theorem open_srg {n : Nat} {v : Value} {x : DataW H × List MemPlace} (h : DataW.trod enc Try.prog w 0 (fun _ => true) true n 24 [v] = some x) : ∃ a l c L, v = .slice a l c ∧ SRg w a l c L := open_sl Try.underlying24 (by kernel_rfl) el_Rgr h
theorem el_Actn (n : Nat) (cs : List Value) (y : DataW H × List MemPlace) (b : Addr) (hl : cs.length = 3) (hat : ∀ i u, cs[i]? = some u → w.cell? (b.add i) = some u) (h : DataW.trod enc Try.prog w 0 (fun _ => true) true n 125 cs = some y) : ∃ x : Actn, CAn w b x := by
  match cs, hl with
  | [q0, q1, q2], _ =>
    have g0 := hat 0 q0 rfl
    have g1 := hat 1 q1 rfl
    have g2 := hat 2 q2 rfl
    obtain ⟨xs, n1, _, _, _, hlen, hg⟩ := DataW.trod_struct Try.underlying125 h
    match xs, hlen with
    | [y0, y1, y2], _ =>
      have p0 : DataW.trod enc Try.prog w 0 (fun _ => true) true n1 9 [q0] = some y0 := by
        have q : DataW.trod enc Try.prog w 0 (fun _ => true) true n1 9 (([q0, q1, q2].drop 0).take (Try.prog.cellsOf 9)) = some y0 := hg 0 _ rfl
        rw [show Try.prog.cellsOf 9 = 1 from by kernel_rfl] at q
        exact q
      have p1 : DataW.trod enc Try.prog w 0 (fun _ => true) true n1 23 [q1] = some y1 := by
        have q : DataW.trod enc Try.prog w 0 (fun _ => true) true n1 23 (([q0, q1, q2].drop 1).take (Try.prog.cellsOf 23)) = some y1 := hg 1 _ rfl
        rw [show Try.prog.cellsOf 23 = 1 from by kernel_rfl] at q
        exact q
      have p2 : DataW.trod enc Try.prog w 0 (fun _ => true) true n1 123 [q2] = some y2 := by
        have q : DataW.trod enc Try.prog w 0 (fun _ => true) true n1 123 (([q0, q1, q2].drop 2).take (Try.prog.cellsOf 123)) = some y2 := hg 2 _ rfl
        rw [show Try.prog.cellsOf 123 = 1 from by kernel_rfl] at q
        exact q
      obtain ⟨a0, e0, _, _⟩ := DataW.trod_string Try.underlying9 p0
      injection e0 with e0 _
      subst e0
      obtain ⟨a1, l1, c1, L1, e1, s1⟩ := open_sf p1
      subst e1
      obtain ⟨a2, l2, c2, L2, e2, s2⟩ := open_ssm p2
      subst e2
      exact ⟨⟨a0, L1, L2⟩, g0, ⟨_, _, _, g1, s1⟩, ⟨_, _, _, g2, s2⟩⟩
theorem open_san {n : Nat} {v : Value} {x : DataW H × List MemPlace} (h : DataW.trod enc Try.prog w 0 (fun _ => true) true n 25 [v] = some x) : ∃ a l c L, v = .slice a l c ∧ SAn w a l c L := open_sl Try.underlying25 (by kernel_rfl) el_Actn h
theorem el_Tbl (n : Nat) (cs : List Value) (y : DataW H × List MemPlace) (b : Addr) (hl : cs.length = 6) (hat : ∀ i u, cs[i]? = some u → w.cell? (b.add i) = some u) (h : DataW.trod enc Try.prog w 0 (fun _ => true) true n 130 cs = some y) : ∃ x : Tbl, CTb w b x := by
  match cs, hl with
  | [q0, q1, q2, q3, q4, q5], _ =>
    have g0 := hat 0 q0 rfl
    have g1 := hat 1 q1 rfl
    have g2 := hat 2 q2 rfl
    have g3 := hat 3 q3 rfl
    have g4 := hat 4 q4 rfl
    have g5 := hat 5 q5 rfl
    obtain ⟨xs, n1, _, _, _, hlen, hg⟩ := DataW.trod_struct Try.underlying130 h
    match xs, hlen with
    | [y0, y1, y2, y3, y4], _ =>
      have p0 : DataW.trod enc Try.prog w 0 (fun _ => true) true n1 9 [q0] = some y0 := by
        have q : DataW.trod enc Try.prog w 0 (fun _ => true) true n1 9 (([q0, q1, q2, q3, q4, q5].drop 0).take (Try.prog.cellsOf 9)) = some y0 := hg 0 _ rfl
        rw [show Try.prog.cellsOf 9 = 1 from by kernel_rfl] at q
        exact q
      have p1 : DataW.trod enc Try.prog w 0 (fun _ => true) true n1 126 [q1] = some y1 := by
        have q : DataW.trod enc Try.prog w 0 (fun _ => true) true n1 126 (([q0, q1, q2, q3, q4, q5].drop 1).take (Try.prog.cellsOf 126)) = some y1 := hg 1 _ rfl
        rw [show Try.prog.cellsOf 126 = 1 from by kernel_rfl] at q
        exact q
      have p2 : DataW.trod enc Try.prog w 0 (fun _ => true) true n1 29 [q2] = some y2 := by
        have q : DataW.trod enc Try.prog w 0 (fun _ => true) true n1 29 (([q0, q1, q2, q3, q4, q5].drop 2).take (Try.prog.cellsOf 29)) = some y2 := hg 2 _ rfl
        rw [show Try.prog.cellsOf 29 = 1 from by kernel_rfl] at q
        exact q
      have p3 : DataW.trod enc Try.prog w 0 (fun _ => true) true n1 128 [q3, q4] = some y3 := by
        have q : DataW.trod enc Try.prog w 0 (fun _ => true) true n1 128 (([q0, q1, q2, q3, q4, q5].drop 3).take (Try.prog.cellsOf 128)) = some y3 := hg 3 _ rfl
        rw [show Try.prog.cellsOf 128 = 2 from by kernel_rfl] at q
        exact q
      obtain ⟨zs3, m3, _, _, _, zlen3, zg3⟩ := DataW.trod_struct Try.underlying128 p3
      match zs3, zlen3 with
      | [z3_0, z3_1], _ =>
      have p3_0 : DataW.trod enc Try.prog w 0 (fun _ => true) true m3 3 [q3] = some z3_0 := by
        have q : DataW.trod enc Try.prog w 0 (fun _ => true) true m3 3 (([q3, q4].drop 0).take (Try.prog.cellsOf 3)) = some z3_0 := zg3 0 _ rfl
        rw [show Try.prog.cellsOf 3 = 1 from by kernel_rfl] at q
        exact q
      have p3_1 : DataW.trod enc Try.prog w 0 (fun _ => true) true m3 35 [q4] = some z3_1 := by
        have q : DataW.trod enc Try.prog w 0 (fun _ => true) true m3 35 (([q3, q4].drop 1).take (Try.prog.cellsOf 35)) = some z3_1 := zg3 1 _ rfl
        rw [show Try.prog.cellsOf 35 = 1 from by kernel_rfl] at q
        exact q
      have p4 : DataW.trod enc Try.prog w 0 (fun _ => true) true n1 3 [q5] = some y4 := by
        have q : DataW.trod enc Try.prog w 0 (fun _ => true) true n1 3 (([q0, q1, q2, q3, q4, q5].drop 5).take (Try.prog.cellsOf 3)) = some y4 := hg 4 _ rfl
        rw [show Try.prog.cellsOf 3 = 1 from by kernel_rfl] at q
        exact q
      obtain ⟨a0, e0, _, _⟩ := DataW.trod_string Try.underlying9 p0
      injection e0 with e0 _
      subst e0
      obtain ⟨a1, l1, c1, L1, e1, s1⟩ := open_sky p1
      subst e1
      obtain ⟨a2, l2, c2, L2, e2, s2⟩ := open_si p2
      subst e2
      obtain ⟨a3, e3, _, w3⟩ := DataW.trod_int Try.underlying3 p3_0
      injection e3 with e3 _
      subst e3
      obtain ⟨a4, l4, c4, L4, e4, s4⟩ := open_su p3_1
      subst e4
      obtain ⟨a5, e5, _, w5⟩ := DataW.trod_int Try.underlying3 p4
      injection e5 with e5 _
      subst e5
      exact ⟨⟨a0, L1, L2, a3, L4, a5⟩, g0, ⟨_, _, _, g1, s1⟩, ⟨_, _, _, g2, s2⟩, ⟨g3, (i64_bd w3).1, (i64_bd w3).2⟩, ⟨_, _, _, g4, s4⟩, g5⟩
theorem open_stb {n : Nat} {v : Value} {x : DataW H × List MemPlace} (h : DataW.trod enc Try.prog w 0 (fun _ => true) true n 26 [v] = some x) : ∃ a l c L, v = .slice a l c ∧ STb w a l c L := open_sl Try.underlying26 (by kernel_rfl) el_Tbl h
theorem el_Pst (n : Nat) (cs : List Value) (y : DataW H × List MemPlace) (b : Addr) (hl : cs.length = 7) (hat : ∀ i u, cs[i]? = some u → w.cell? (b.add i) = some u) (h : DataW.trod enc Try.prog w 0 (fun _ => true) true n 133 cs = some y) : ∃ x : Pst, CPs w b x := by
  match cs, hl with
  | [q0, q1, q2, q3, q4, q5, q6], _ =>
    have g0 := hat 0 q0 rfl
    have g1 := hat 1 q1 rfl
    have g2 := hat 2 q2 rfl
    have g3 := hat 3 q3 rfl
    have g4 := hat 4 q4 rfl
    have g5 := hat 5 q5 rfl
    have g6 := hat 6 q6 rfl
    obtain ⟨xs, n1, _, _, _, hlen, hg⟩ := DataW.trod_struct Try.underlying133 h
    match xs, hlen with
    | [y0, y1, y2, y3, y4, y5], _ =>
      have p0 : DataW.trod enc Try.prog w 0 (fun _ => true) true n1 9 [q0] = some y0 := by
        have q : DataW.trod enc Try.prog w 0 (fun _ => true) true n1 9 (([q0, q1, q2, q3, q4, q5, q6].drop 0).take (Try.prog.cellsOf 9)) = some y0 := hg 0 _ rfl
        rw [show Try.prog.cellsOf 9 = 1 from by kernel_rfl] at q
        exact q
      have p1 : DataW.trod enc Try.prog w 0 (fun _ => true) true n1 29 [q1] = some y1 := by
        have q : DataW.trod enc Try.prog w 0 (fun _ => true) true n1 29 (([q0, q1, q2, q3, q4, q5, q6].drop 1).take (Try.prog.cellsOf 29)) = some y1 := hg 1 _ rfl
        rw [show Try.prog.cellsOf 29 = 1 from by kernel_rfl] at q
        exact q
      have p2 : DataW.trod enc Try.prog w 0 (fun _ => true) true n1 4 [q2] = some y2 := by
        have q : DataW.trod enc Try.prog w 0 (fun _ => true) true n1 4 (([q0, q1, q2, q3, q4, q5, q6].drop 2).take (Try.prog.cellsOf 4)) = some y2 := hg 2 _ rfl
        rw [show Try.prog.cellsOf 4 = 1 from by kernel_rfl] at q
        exact q
      have p3 : DataW.trod enc Try.prog w 0 (fun _ => true) true n1 48 [q3, q4] = some y3 := by
        have q : DataW.trod enc Try.prog w 0 (fun _ => true) true n1 48 (([q0, q1, q2, q3, q4, q5, q6].drop 3).take (Try.prog.cellsOf 48)) = some y3 := hg 3 _ rfl
        rw [show Try.prog.cellsOf 48 = 2 from by kernel_rfl] at q
        exact q
      obtain ⟨zs3, m3, _, _, _, zlen3, zg3⟩ := DataW.trod_struct Try.underlying48 p3
      match zs3, zlen3 with
      | [z3_0, z3_1], _ =>
      have p3_0 : DataW.trod enc Try.prog w 0 (fun _ => true) true m3 3 [q3] = some z3_0 := by
        have q : DataW.trod enc Try.prog w 0 (fun _ => true) true m3 3 (([q3, q4].drop 0).take (Try.prog.cellsOf 3)) = some z3_0 := zg3 0 _ rfl
        rw [show Try.prog.cellsOf 3 = 1 from by kernel_rfl] at q
        exact q
      have p3_1 : DataW.trod enc Try.prog w 0 (fun _ => true) true m3 3 [q4] = some z3_1 := by
        have q : DataW.trod enc Try.prog w 0 (fun _ => true) true m3 3 (([q3, q4].drop 1).take (Try.prog.cellsOf 3)) = some z3_1 := zg3 1 _ rfl
        rw [show Try.prog.cellsOf 3 = 1 from by kernel_rfl] at q
        exact q
      have p4 : DataW.trod enc Try.prog w 0 (fun _ => true) true n1 131 [q5] = some y4 := by
        have q : DataW.trod enc Try.prog w 0 (fun _ => true) true n1 131 (([q0, q1, q2, q3, q4, q5, q6].drop 5).take (Try.prog.cellsOf 131)) = some y4 := hg 4 _ rfl
        rw [show Try.prog.cellsOf 131 = 1 from by kernel_rfl] at q
        exact q
      have p5 : DataW.trod enc Try.prog w 0 (fun _ => true) true n1 3 [q6] = some y5 := by
        have q : DataW.trod enc Try.prog w 0 (fun _ => true) true n1 3 (([q0, q1, q2, q3, q4, q5, q6].drop 6).take (Try.prog.cellsOf 3)) = some y5 := hg 5 _ rfl
        rw [show Try.prog.cellsOf 3 = 1 from by kernel_rfl] at q
        exact q
      obtain ⟨a0, e0, _, _⟩ := DataW.trod_string Try.underlying9 p0
      injection e0 with e0 _
      subst e0
      obtain ⟨a1, l1, c1, L1, e1, s1⟩ := open_si p1
      subst e1
      obtain ⟨a2, e2, _⟩ := DataW.trod_bool Try.underlying4 p2
      injection e2 with e2 _
      subst e2
      obtain ⟨a3, e3, _, w3⟩ := DataW.trod_int Try.underlying3 p3_0
      injection e3 with e3 _
      subst e3
      obtain ⟨a4, e4, _, w4⟩ := DataW.trod_int Try.underlying3 p3_1
      injection e4 with e4 _
      subst e4
      obtain ⟨a5, l5, c5, L5, e5, s5⟩ := open_sca p4
      subst e5
      obtain ⟨a6, e6, _, w6⟩ := DataW.trod_int Try.underlying3 p5
      injection e6 with e6 _
      subst e6
      exact ⟨⟨a0, L1, a2, a3, a4, L5, a6⟩, g0, ⟨_, _, _, g1, s1⟩, g2, g3, g4, ⟨_, _, _, g5, s5⟩, g6⟩
theorem open_sps {n : Nat} {v : Value} {x : DataW H × List MemPlace} (h : DataW.trod enc Try.prog w 0 (fun _ => true) true n 27 [v] = some x) : ∃ a l c L, v = .slice a l c ∧ SPs w a l c L := open_sl Try.underlying27 (by kernel_rfl) el_Pst h
set_option maxRecDepth 100000 in
theorem open_pg {r : Reach} {b0 : Nat} {v : Value} {d : DataW H} {p : List MemPlace} (hv : Value.okWide Try.prog w r b0 31 v) (h : DataW.Trod enc Try.prog w 0 (fun _ => true) true 31 v d p) :
    ∃ (X : PX) (P : Pg), v = .agg #[.string X.nm, .slice X.ha X.hn X.hc, .slice X.ma X.mn X.mc, .slice X.ra X.rn X.rc, .slice X.aa X.an X.ac, .slice X.ta X.tn X.tc, .slice X.sa X.sn X.sc, .slice X.ca X.cn X.cc, .slice X.da X.dn X.dc] ∧ SP w X P ∧ ∃ n y, DataW.trod enc Try.prog w 0 (fun _ => true) true n 28 [.slice X.ca X.cn X.cc] = some y := by
  obtain ⟨cs, rfl, hsz⟩ := okWide_struct Try.underlying31 hv
  obtain ⟨l⟩ := cs
  have hl : l.length = 9 := hsz.trans (by kernel_rfl)
  match l, hl with
  | [c0, c1, c2, c3, c4, c5, c6, c7, c8], _ =>
    obtain ⟨fuel, hf⟩ := h
    obtain ⟨xs, n, _, _, _, hlen, pg⟩ := DataW.trod_struct Try.underlying31 hf
    match xs, hlen with
    | [q0, q1, q2, q3, q4, q5, q6, q7, q8], _ =>
      have p0 : DataW.trod enc Try.prog w 0 (fun _ => true) true n 9 [c0] = some q0 := by
        have q : DataW.trod enc Try.prog w 0 (fun _ => true) true n 9 (([c0, c1, c2, c3, c4, c5, c6, c7, c8].drop 0).take (Try.prog.cellsOf 9)) = some q0 := pg 0 _ rfl
        rw [show Try.prog.cellsOf 9 = 1 from by kernel_rfl] at q
        exact q
      have p1 : DataW.trod enc Try.prog w 0 (fun _ => true) true n 22 [c1] = some q1 := by
        have q : DataW.trod enc Try.prog w 0 (fun _ => true) true n 22 (([c0, c1, c2, c3, c4, c5, c6, c7, c8].drop 1).take (Try.prog.cellsOf 22)) = some q1 := pg 1 _ rfl
        rw [show Try.prog.cellsOf 22 = 1 from by kernel_rfl] at q
        exact q
      have p2 : DataW.trod enc Try.prog w 0 (fun _ => true) true n 23 [c2] = some q2 := by
        have q : DataW.trod enc Try.prog w 0 (fun _ => true) true n 23 (([c0, c1, c2, c3, c4, c5, c6, c7, c8].drop 2).take (Try.prog.cellsOf 23)) = some q2 := pg 2 _ rfl
        rw [show Try.prog.cellsOf 23 = 1 from by kernel_rfl] at q
        exact q
      have p3 : DataW.trod enc Try.prog w 0 (fun _ => true) true n 24 [c3] = some q3 := by
        have q : DataW.trod enc Try.prog w 0 (fun _ => true) true n 24 (([c0, c1, c2, c3, c4, c5, c6, c7, c8].drop 3).take (Try.prog.cellsOf 24)) = some q3 := pg 3 _ rfl
        rw [show Try.prog.cellsOf 24 = 1 from by kernel_rfl] at q
        exact q
      have p4 : DataW.trod enc Try.prog w 0 (fun _ => true) true n 25 [c4] = some q4 := by
        have q : DataW.trod enc Try.prog w 0 (fun _ => true) true n 25 (([c0, c1, c2, c3, c4, c5, c6, c7, c8].drop 4).take (Try.prog.cellsOf 25)) = some q4 := pg 4 _ rfl
        rw [show Try.prog.cellsOf 25 = 1 from by kernel_rfl] at q
        exact q
      have p5 : DataW.trod enc Try.prog w 0 (fun _ => true) true n 26 [c5] = some q5 := by
        have q : DataW.trod enc Try.prog w 0 (fun _ => true) true n 26 (([c0, c1, c2, c3, c4, c5, c6, c7, c8].drop 5).take (Try.prog.cellsOf 26)) = some q5 := pg 5 _ rfl
        rw [show Try.prog.cellsOf 26 = 1 from by kernel_rfl] at q
        exact q
      have p6 : DataW.trod enc Try.prog w 0 (fun _ => true) true n 27 [c6] = some q6 := by
        have q : DataW.trod enc Try.prog w 0 (fun _ => true) true n 27 (([c0, c1, c2, c3, c4, c5, c6, c7, c8].drop 6).take (Try.prog.cellsOf 27)) = some q6 := pg 6 _ rfl
        rw [show Try.prog.cellsOf 27 = 1 from by kernel_rfl] at q
        exact q
      have p7 : DataW.trod enc Try.prog w 0 (fun _ => true) true n 28 [c7] = some q7 := by
        have q : DataW.trod enc Try.prog w 0 (fun _ => true) true n 28 (([c0, c1, c2, c3, c4, c5, c6, c7, c8].drop 7).take (Try.prog.cellsOf 28)) = some q7 := pg 7 _ rfl
        rw [show Try.prog.cellsOf 28 = 1 from by kernel_rfl] at q
        exact q
      have p8 : DataW.trod enc Try.prog w 0 (fun _ => true) true n 29 [c8] = some q8 := by
        have q : DataW.trod enc Try.prog w 0 (fun _ => true) true n 29 (([c0, c1, c2, c3, c4, c5, c6, c7, c8].drop 8).take (Try.prog.cellsOf 29)) = some q8 := pg 8 _ rfl
        rw [show Try.prog.cellsOf 29 = 1 from by kernel_rfl] at q
        exact q
      obtain ⟨s, es, _, _⟩ := DataW.trod_string Try.underlying9 p0
      injection es with es _
      subst es
      obtain ⟨a1, n1, d1, L1, rfl, s1⟩ := open_sh p1
      obtain ⟨a2, n2, d2, L2, rfl, s2⟩ := open_sf p2
      obtain ⟨a3, n3, d3, L3, rfl, s3⟩ := open_srg p3
      obtain ⟨a4, n4, d4, L4, rfl, s4⟩ := open_san p4
      obtain ⟨a5, n5, d5, L5, rfl, s5⟩ := open_stb p5
      obtain ⟨a6, n6, d6, L6, rfl, s6⟩ := open_sps p6
      obtain ⟨a7, n7, d7, rfl⟩ := shape_sl Try.underlying28 p7
      obtain ⟨a8, n8, d8, L8, rfl, s8⟩ := open_si p8
      exact ⟨⟨s, a1, n1, d1, a2, n2, d2, a3, n3, d3, a4, n4, d4, a5, n5, d5, a6, n6, d6, a7, n7, d7, a8, n8, d8⟩, ⟨L1, L2, L3, L4, L5, L6, L8⟩, rfl, ⟨s1, s2, s3, s4, s5, s6, s8⟩, n, _, p7⟩
end
end Go.Proofs.Ytdbjeihbfooipaa.Tb
end
section
/- Table: what the law calls small; no condition but sizes. -/
namespace Go.Proofs.Ytdbjeihbfooipaa.Tb
open Go.RowKit
set_option linter.unusedVariables false
structure TX where
  (ka ca ra : Option Addr)
  (kn kc cn cc rn rc : Nat)
structure TST (w : World) (Y : TX) (tb : Tbl) : Prop where
  k : SKy w Y.ka Y.kn Y.kc tb.ks
  c : SI w Y.ca Y.cn Y.cc tb.acs
  r : SU w Y.ra Y.rn Y.rc tb.ar
  d : -9223372036854775808 ≤ tb.da ∧ tb.da ≤ 9223372036854775807
theorem TST.keep0 {w w2 : World} {Y : TX} {tb : Tbl} (h : TST w Y tb) (k : w.grownBy w2 none) : TST w2 Y tb := ⟨h.k.keep0SKy k, h.c.keep0 k, h.r.keep0 k, h.d⟩
theorem next_all {p : Nat → Prop} {j : Nat} (b : ∀ i, i < j → p i) (h : p j) : ∀ i, i < j + 1 → p i := fun i hi => by
  rcases (show i < j ∨ i = j by omega) with r | rfl
  · exact b i r
  · exact h
theorem SP.tab {w : World} {X : PX} {P : Pg} (h : SP w X P) {k : Nat} (hk : k < X.tn) {tad : Addr} (ht : X.ta = some tad) : ∃ Y : TX, TST w Y (P.T.getD k tbz) ∧ w.cell? (tad.add (k * 6)) = some (.string (P.T.getD k tbz).nm) ∧ w.cell? ⟨(tad.add (k * 6)).block, (tad.add (k * 6)).off + 1, none⟩ = some (.slice Y.ka Y.kn Y.kc) ∧ w.cell? ⟨(tad.add (k * 6)).block, (tad.add (k * 6)).off + 2, none⟩ = some (.slice Y.ca Y.cn Y.cc) ∧ w.cell? ⟨(tad.add (k * 6)).block, (tad.add (k * 6)).off + 3, none⟩ = some (.int .i64 (P.T.getD k tbz).da) ∧ w.cell? ⟨(tad.add (k * 6)).block, (tad.add (k * 6)).off + 4, none⟩ = some (.slice Y.ra Y.rn Y.rc) ∧ w.cell? ⟨(tad.add (k * 6)).block, (tad.add (k * 6)).off + 5, none⟩ = some (.int .i64 (P.T.getD k tbz).sz) := by
  obtain ⟨h0, ⟨ka, kn, kc, h1, s1⟩, ⟨ca, cn, cq, h2, s2⟩, h3, ⟨ra, rn, rc, h4, s4⟩, h5⟩ := h.t.cells tad ht k hk
  exact ⟨⟨ka, ca, ra, kn, kc, cn, cq, rn, rc⟩, ⟨s1, s2, s4, h3.2⟩, h0, h1, h2, h3.1, h4, h5⟩
def RetB (Q : Prop) (w : World) (e : Ending) (w' : World) : Prop := ∃ b : Bool, e = .returned (.bool b) ∧ w.grownBy w' none ∧ (b = true → Q)
set_option maxRecDepth 100000 in
set_option maxHeartbeats 4000000 in
theorem fields_any (w : World) (a : Option Addr) (n c : Nat) (L : List Fld) (h : SF w a n c L) : Calls Try.prog 69 #[.slice a n c] w (RetB (n ≤ 16) w) := by
  have HS := Lib.hid h
  clear h
  by_cases h1 : (16 : Int) < n
  · go_enter Try.func69, Try.ntmps69
    go_wp2
    go_ret
    exact ⟨false, rfl, gb_refl _ _, fun h => by cases h⟩
  · have N := Lib.hid (show n ≤ 16 by omega)
    go_enter Try.func69, Try.ntmps69
    go_wp2
    go_loopw [3] (fun i wr => ∃ j : Nat, j ≤ n ∧ i = .int .i64 j ∧ w.grownBy wr none) (fun i _ => n - (intOf i).toNat)
    case atStart => exact ⟨0, Nat.zero_le _, rfl, gb_refl _ _⟩
    case round =>
      obtain ⟨j, hj, rfl, hg⟩ := hrel
      have G := Lib.hid hg
      clear hg
      by_cases hlt : j < n
      · obtain ⟨ad, had⟩ := HS.out.some (by omega)
        obtain ⟨e0, e1⟩ := (HS.out.keep0 G.out).cells ad had j hlt
        generalize (L.getD j fz).1 = nm at *
        have i1 : (j : Int) < n := by omega
        have i0 : (0 : Int) ≤ (j : Int) := by omega
        have hw : IntKind.i64.wrap ((j : Int) + 1) = ((j + 1 : Nat) : Int) := by have := N.out; rw [IntKind.wrap_i64]; omega
        rw [had]
        clear e1
        by_cases q : (40 : Int) < (nm.size : Int)
        · go_wp2
          go_ret
          exact ⟨false, rfl, G.out, fun h => by cases h⟩
        · go_wp2
          go_roundw
          case rel => exact ⟨j + 1, by omega, by first | rfl | (congr 1), G.out⟩
          case measure => simp [intOf]; omega
      · have i1 : ¬ (j : Int) < n := by omega
        go_wp2
        go_ret
        exact ⟨true, rfl, G.out, fun _ => N.out⟩
set_option maxRecDepth 100000 in
set_option maxHeartbeats 4000000 in
theorem body_any (w : World) (an : Actn) (pa ba : Option Addr) (pn pc bn bc : Nat) (hp : SF w pa pn pc an.ps) (hb : SSm w ba bn bc an.bd) : Calls Try.prog 70 #[.agg #[.string an.nm, .slice pa pn pc, .slice ba bn bc]] w (RetB True w) := by
  have HP := Lib.hid hp
  have HB := Lib.hid hb
  have G2 := Lib.hid (gb_alloc w (.cells #[.string an.nm, .slice pa pn pc, .slice ba bn bc] 125) none)
  have B1 := IsB.new w 125 #[.string an.nm, .slice pa pn pc, .slice ba bn bc]
  replace B1 := Lib.hid B1
  clear hp hb
  go_enter Try.func70, Try.ntmps70
  go_upto_region 1 with fail
  generalize w.alloc (.cells #[.string an.nm, .slice pa pn pc, .slice ba bn bc] 125) = w2 at *
  obtain ⟨bx, hbx⟩ : ∃ b, b = w.heap.size := ⟨_, rfl⟩
  have Lbx := Lib.hid (show w.heap.size ≤ bx by rw [hbx]; exact Nat.le_refl _)
  rw [← hbx] at B1 ⊢
  clear hbx
  replace HP := Lib.hid (HP.out.keep0 G2.out)
  replace HB := Lib.hid (HB.out.keep0SSm G2.out)
  have c0 := (B1.out.keep0 (gb_refl _ _)).cell 0
  have c1 := (B1.out.keep0 (gb_refl _ _)).cell 1
  have c2 := (B1.out.keep0 (gb_refl _ _)).cell 2
  dsimp at c0 c1 c2
  by_cases h0 : (40 : Int) < (an.nm.size : Int)
  · go_wp2
    go_ret
    exact ⟨false, rfl, G2.out, fun h => by cases h⟩
  · go_upto_region 1 with fail
    go_wp2_with fail
    refine (fields_any w2 pa pn pc an.ps HP.out).mono ?_
    rintro e w3 ⟨b, rfl, g, _⟩
    have c2 := (B1.out.keep0 g).cell 2
    dsimp at c2
    have G3 := Lib.hid (gb_trans G2.out g)
    have G23 := Lib.hid g
    clear g
    cases b
    · go_wp2
      go_ret
      exact ⟨false, rfl, G3.out, fun h => by cases h⟩
    · by_cases h1 : (16 : Int) < bn
      · go_wp2
        go_ret
        exact ⟨false, rfl, G3.out, fun h => by cases h⟩
      · have N := Lib.hid (show bn ≤ 16 by omega)
        go_wp2
        clear c0 c1 c2
        go_loopw [3] (fun i wr => ∃ j : Nat, j ≤ bn ∧ i = .int .i64 j ∧ w2.grownBy wr none) (fun i _ => bn - (intOf i).toNat)
        case atStart => exact ⟨0, Nat.zero_le _, rfl, G23.out⟩
        case round =>
          obtain ⟨j, hj, rfl, hg⟩ := hrel
          have G := Lib.hid hg
          clear hg
          have c2 := (B1.out.keep0 G.out).cell 2
          dsimp at c2
          by_cases hlt : j < bn
          · obtain ⟨ad, had⟩ := HB.out.some (by omega)
            obtain ⟨_, _, _, _, _, ⟨xa, xn, xc, e5, _⟩, ⟨ya, yn, yc, e6, _⟩⟩ := (HB.out.keep0SSm G.out).cells ad had j hlt
            have i1 : (j : Int) < bn := by omega
            have i0 : (0 : Int) ≤ (j : Int) := by omega
            have hw : IntKind.i64.wrap ((j : Int) + 1) = ((j + 1 : Nat) : Int) := by have := N.out; rw [IntKind.wrap_i64]; omega
            rw [had] at c2 ⊢
            by_cases q : (40 : Int) < xn
            · go_wp2
              go_ret
              exact ⟨false, rfl, gb_trans G2.out G.out, fun h => by cases h⟩
            · by_cases q2 : (40 : Int) < yn
              · go_wp2
                go_ret
                exact ⟨false, rfl, gb_trans G2.out G.out, fun h => by cases h⟩
              · go_wp2
                go_roundw
                case rel => exact ⟨j + 1, by omega, by first | rfl | (congr 1), G.out⟩
                case measure => simp [intOf]; omega
          · have i1 : ¬ (j : Int) < bn := by omega
            go_wp2
            go_ret
            exact ⟨true, rfl, gb_trans G2.out G.out, fun _ => trivial⟩
end Go.Proofs.Ytdbjeihbfooipaa.Tb
end
section
/- Table: what the law calls a small program; no condition. -/
namespace Go.Proofs.Ytdbjeihbfooipaa.Tb
open Go.RowKit
set_option linter.unusedVariables false
def smT (tb : Tbl) : Prop := tb.nm.size ≤ 40 ∧ tb.ks.length ≤ 10 ∧ tb.acs.length ≤ 24 ∧ tb.ar.length ≤ 10
def smP (P : Pg) : Prop := P.T.length ≤ 16 ∧ P.A.length ≤ 20 ∧ P.M.length ≤ 16 ∧ ∀ k, k < P.T.length → smT (P.T.getD k tbz)
set_option maxRecDepth 100000 in
set_option maxHeartbeats 40000000 in
theorem small_any (w : World) (X : PX) (P : Pg) (hp : SP w X P) : Calls Try.prog 25 #[.agg #[.string X.nm, .slice X.ha X.hn X.hc, .slice X.ma X.mn X.mc, .slice X.ra X.rn X.rc, .slice X.aa X.an X.ac, .slice X.ta X.tn X.tc, .slice X.sa X.sn X.sc, .slice X.ca X.cn X.cc, .slice X.da X.dn X.dc]] w (RetB (smP P) w) := by
  have HP := Lib.hid hp
  have G2 := Lib.hid (gb_alloc w (.cells #[.string X.nm, .slice X.ha X.hn X.hc, .slice X.ma X.mn X.mc, .slice X.ra X.rn X.rc, .slice X.aa X.an X.ac, .slice X.ta X.tn X.tc, .slice X.sa X.sn X.sc, .slice X.ca X.cn X.cc, .slice X.da X.dn X.dc] 31) none)
  have B1 := IsB.new w 31 #[.string X.nm, .slice X.ha X.hn X.hc, .slice X.ma X.mn X.mc, .slice X.ra X.rn X.rc, .slice X.aa X.an X.ac, .slice X.ta X.tn X.tc, .slice X.sa X.sn X.sc, .slice X.ca X.cn X.cc, .slice X.da X.dn X.dc]
  replace B1 := Lib.hid B1
  clear hp
  go_enter Try.func25, Try.ntmps25
  go_upto_region 1 with fail
  generalize w.alloc (.cells #[.string X.nm, .slice X.ha X.hn X.hc, .slice X.ma X.mn X.mc, .slice X.ra X.rn X.rc, .slice X.aa X.an X.ac, .slice X.ta X.tn X.tc, .slice X.sa X.sn X.sc, .slice X.ca X.cn X.cc, .slice X.da X.dn X.dc] 31) = w2 at *
  obtain ⟨bx, hbx⟩ : ∃ b, b = w.heap.size := ⟨_, rfl⟩
  have Lbx := Lib.hid (show w.heap.size ≤ bx by rw [hbx]; exact Nat.le_refl _)
  rw [← hbx] at B1 ⊢
  clear hbx
  replace HP := Lib.hid (HP.out.keep0 G2.out)
  have c0 := (B1.out.keep0 (gb_refl _ _)).cell 0
  have c1 := (B1.out.keep0 (gb_refl _ _)).cell 1
  have c2 := (B1.out.keep0 (gb_refl _ _)).cell 2
  have c3 := (B1.out.keep0 (gb_refl _ _)).cell 3
  have c4 := (B1.out.keep0 (gb_refl _ _)).cell 4
  have c5 := (B1.out.keep0 (gb_refl _ _)).cell 5
  have c6 := (B1.out.keep0 (gb_refl _ _)).cell 6
  have c7 := (B1.out.keep0 (gb_refl _ _)).cell 7
  have c8 := (B1.out.keep0 (gb_refl _ _)).cell 8
  dsimp at c0 c1 c2 c3 c4 c5 c6 c7 c8
  by_cases n0 : (40 : Int) < (X.nm.size : Int)
  · go_wp2
    go_ret
    exact ⟨false, rfl, G2.out, fun h => by cases h⟩
  · by_cases n1 : (12 : Int) < X.hn
    · go_wp2
      go_ret
      exact ⟨false, rfl, G2.out, fun h => by cases h⟩
    · have H6 := Lib.hid (show X.hn ≤ 12 by omega)
      go_wp2_with fail
      refine (fields_any w2 X.ma X.mn X.mc P.M HP.out.m).mono ?_
      rintro e w3 ⟨b, rfl, g, mq⟩
      have MQ := Lib.hid mq
      have c0 := (B1.out.keep0 g).cell 0
      have c1 := (B1.out.keep0 g).cell 1
      have c2 := (B1.out.keep0 g).cell 2
      have c3 := (B1.out.keep0 g).cell 3
      have c4 := (B1.out.keep0 g).cell 4
      have c5 := (B1.out.keep0 g).cell 5
      have c6 := (B1.out.keep0 g).cell 6
      have c7 := (B1.out.keep0 g).cell 7
      have c8 := (B1.out.keep0 g).cell 8
      dsimp at c0 c1 c2 c3 c4 c5 c6 c7 c8
      have GS := Lib.hid g
      clear g mq
      cases b
      · go_wp2
        go_ret
        exact ⟨false, rfl, gb_trans G2.out GS.out, fun h => by cases h⟩
      · have M6 := Lib.hid (show X.mn ≤ 16 from MQ.out rfl)
        by_cases q0 : (8 : Int) < X.rn
        · go_wp2
          go_ret
          exact ⟨false, rfl, gb_trans G2.out GS.out, fun h => by cases h⟩
        · have R6 := Lib.hid (show X.rn ≤ 8 by omega)
          by_cases q1 : (20 : Int) < X.an
          · go_wp2
            go_ret
            exact ⟨false, rfl, gb_trans G2.out GS.out, fun h => by cases h⟩
          · have A6 := Lib.hid (show X.an ≤ 20 by omega)
            by_cases q2 : (16 : Int) < X.tn
            · go_wp2
              go_ret
              exact ⟨false, rfl, gb_trans G2.out GS.out, fun h => by cases h⟩
            · have T6 := Lib.hid (show X.tn ≤ 16 by omega)
              by_cases q3 : (16 : Int) < X.sn
              · go_wp2
                go_ret
                exact ⟨false, rfl, gb_trans G2.out GS.out, fun h => by cases h⟩
              · have S6x := Lib.hid (show X.sn ≤ 16 by omega)
                by_cases q4 : (16 : Int) < X.dn
                · go_wp2
                  go_ret
                  exact ⟨false, rfl, gb_trans G2.out GS.out, fun h => by cases h⟩
                · have D6 := Lib.hid (show X.dn ≤ 16 by omega)
                  have S6 := Lib.hid (show X.sn ≤ 100 by have := S6x.out; omega)
                  have BD := Lib.hid (show X.hn ≤ 100 by have := H6.out; omega)
                  go_wp2
                  clear c0 c1 c2 c3 c4 c5 c6 c7 c8
                  go_loopw [3] (fun i wr => ∃ j : Nat, j ≤ X.hn ∧ i = .int .i64 j ∧ w2.grownBy wr none) (fun i _ => X.hn - (intOf i).toNat)
                  case atStart => exact ⟨0, Nat.zero_le _, rfl, GS.out⟩
                  case round =>
                    obtain ⟨j, hj, rfl, hg⟩ := hrel
                    have G := Lib.hid hg
                    clear hg GS
                    have c1 := (B1.out.keep0 G.out).cell 1
                    dsimp at c1
                    by_cases hlt : j < X.hn
                    · have i1 : (j : Int) < X.hn := by omega
                      have i0 : (0 : Int) ≤ (j : Int) := by omega
                      have hw : IntKind.i64.wrap ((j : Int) + 1) = ((j + 1 : Nat) : Int) := by have := BD.out; rw [IntKind.wrap_i64]; omega
                      obtain ⟨ad, had⟩ := HP.out.h.some (by omega)
                      obtain ⟨e0, xa, xn, xc, e1, s1⟩ := (HP.out.h.keep0 G.out).cells ad had j hlt
                      have S1 := Lib.hid s1
                      generalize (P.H.getD j hz).1 = nm at *
                      generalize (P.H.getD j hz).2 = hl at *
                      clear s1
                      rw [had] at c1 ⊢
                      by_cases q : (40 : Int) < (nm.size : Int)
                      · go_wp2
                        go_ret
                        exact ⟨false, rfl, gb_trans G2.out G.out, fun h => by cases h⟩
                      · go_wp2_with fail
                        refine (fields_any wr xa xn xc hl S1.out).mono ?_
                        rintro e w6 ⟨b, rfl, g, _⟩
                        have GG := Lib.hid (gb_trans G.out g)
                        clear g c1 e0 e1
                        cases b
                        · go_wp2
                          go_ret
                          exact ⟨false, rfl, gb_trans G2.out GG.out, fun h => by cases h⟩
                        · go_wp2
                          go_roundw
                          case rel => exact ⟨j + 1, by omega, by first | rfl | (congr 1), GG.out⟩
                          case measure => simp [intOf]; omega
                    · have i1 : ¬ (j : Int) < X.hn := by omega
                      have GS := Lib.hid G.out
                      have JN := Lib.hid (show j = X.hn by omega)
                      clear hlt
                      have BD := Lib.hid (show X.rn ≤ 100 by have := R6.out; omega)
                      go_wp2
                      clear c1 i1 hj JN
                      go_loopw [4] (fun i wr => ∃ j : Nat, j ≤ X.rn ∧ i = .int .i64 j ∧ w2.grownBy wr none) (fun i _ => X.rn - (intOf i).toNat)
                      case atStart => exact ⟨0, Nat.zero_le _, rfl, GS.out⟩
                      case round =>
                        obtain ⟨j, hj, rfl, hg⟩ := hrel
                        have G := Lib.hid hg
                        clear hg GS
                        have c3 := (B1.out.keep0 G.out).cell 3
                        dsimp at c3
                        by_cases hlt : j < X.rn
                        · have i1 : (j : Int) < X.rn := by omega
                          have i0 : (0 : Int) ≤ (j : Int) := by omega
                          have hw : IntKind.i64.wrap ((j : Int) + 1) = ((j + 1 : Nat) : Int) := by have := BD.out; rw [IntKind.wrap_i64]; omega
                          obtain ⟨ad, had⟩ := HP.out.r.some (by omega)
                          obtain ⟨e0, e1, e2⟩ := (HP.out.r.keep0SRg G.out).cells ad had j hlt
                          generalize (P.R.getD j rgz).nm = nm at *
                          rw [had] at c3 ⊢
                          clear e1 e2
                          by_cases q : (40 : Int) < (nm.size : Int)
                          · go_wp2
                            go_ret
                            exact ⟨false, rfl, gb_trans G2.out G.out, fun h => by cases h⟩
                          · go_wp2
                            go_roundw
                            case rel => exact ⟨j + 1, by omega, by first | rfl | (congr 1), G.out⟩
                            case measure => simp [intOf]; omega
                        · have i1 : ¬ (j : Int) < X.rn := by omega
                          have GS := Lib.hid G.out
                          have JN := Lib.hid (show j = X.rn by omega)
                          clear hlt
                          have BD := Lib.hid (show X.an ≤ 100 by have := A6.out; omega)
                          go_wp2
                          clear c3 i1 hj JN
                          go_loopw [5] (fun i wr => ∃ j : Nat, j ≤ X.an ∧ i = .int .i64 j ∧ w2.grownBy wr none) (fun i _ => X.an - (intOf i).toNat)
                          case atStart => exact ⟨0, Nat.zero_le _, rfl, GS.out⟩
                          case round =>
                            obtain ⟨j, hj, rfl, hg⟩ := hrel
                            have G := Lib.hid hg
                            clear hg GS
                            have c4 := (B1.out.keep0 G.out).cell 4
                            dsimp at c4
                            by_cases hlt : j < X.an
                            · have i1 : (j : Int) < X.an := by omega
                              have i0 : (0 : Int) ≤ (j : Int) := by omega
                              have hw : IntKind.i64.wrap ((j : Int) + 1) = ((j + 1 : Nat) : Int) := by have := BD.out; rw [IntKind.wrap_i64]; omega
                              obtain ⟨ad, had⟩ := HP.out.a.some (by omega)
                              obtain ⟨e0, ⟨xa, xn, xc, e1, s1⟩, ⟨ya, yn, yc, e2, s2⟩⟩ := (HP.out.a.keep0SAn G.out).cells ad had j hlt
                              have S1 := Lib.hid s1
                              have S2 := Lib.hid s2
                              generalize P.A.getD j anz = an at *
                              clear s1 s2
                              rw [had] at c4 ⊢
                              go_wp2_with fail
                              refine (body_any wr an xa ya xn xc yn yc S1.out S2.out).mono ?_
                              rintro e w6 ⟨b, rfl, g, _⟩
                              have GG := Lib.hid (gb_trans G.out g)
                              clear g c4 e0 e1 e2
                              cases b
                              · go_wp2
                                go_ret
                                exact ⟨false, rfl, gb_trans G2.out GG.out, fun h => by cases h⟩
                              · go_wp2
                                go_roundw
                                case rel => exact ⟨j + 1, by omega, by first | rfl | (congr 1), GG.out⟩
                                case measure => simp [intOf]; omega
                            · have i1 : ¬ (j : Int) < X.an := by omega
                              have GS := Lib.hid G.out
                              have JN := Lib.hid (show j = X.an by omega)
                              clear hlt
                              have BD := Lib.hid (show X.tn ≤ 100 by have := T6.out; omega)
                              go_wp2
                              clear c4 i1 hj JN
                              go_loopw [6] (fun i wr => ∃ j : Nat, j ≤ X.tn ∧ i = .int .i64 j ∧ (∀ x, x < j → smT (P.T.getD x tbz)) ∧ w2.grownBy wr none) (fun i _ => X.tn - (intOf i).toNat)
                              case atStart => exact ⟨0, Nat.zero_le _, rfl, (fun x hx => absurd hx (Nat.not_lt_zero _)), GS.out⟩
                              case round =>
                                obtain ⟨j, hj, rfl, hb, hg⟩ := hrel
                                have G := Lib.hid hg
                                have HB := Lib.hid hb
                                clear hb
                                clear hg GS
                                have c5 := (B1.out.keep0 G.out).cell 5
                                dsimp at c5
                                by_cases hlt : j < X.tn
                                · have i1 : (j : Int) < X.tn := by omega
                                  have i0 : (0 : Int) ≤ (j : Int) := by omega
                                  have hw : IntKind.i64.wrap ((j : Int) + 1) = ((j + 1 : Nat) : Int) := by have := BD.out; rw [IntKind.wrap_i64]; omega
                                  obtain ⟨tad, hta⟩ := HP.out.t.some (by omega)
                                  obtain ⟨Y, st, x0, x1, x2, x3, x4, x5⟩ := HP.out.tab hlt hta
                                  have NX := Lib.hid (fun (q : smT (P.T.getD j tbz)) => next_all (p := fun x => smT (P.T.getD x tbz)) HB.out q)
                                  have LK := Lib.hid st.k.len
                                  have LC := Lib.hid st.c.len
                                  have LR := Lib.hid st.r.len
                                  have e0 := G.out.cell x0 (by simp)
                                  have e1 := G.out.cell x1 (by simp)
                                  have e2 := G.out.cell x2 (by simp)
                                  have e3 := G.out.cell x3 (by simp)
                                  have e4 := G.out.cell x4 (by simp)
                                  have e5 := G.out.cell x5 (by simp)
                                  clear x0 x1 x2 x3 x4 x5 st
                                  generalize P.T.getD j tbz = tb at *
                                  rw [hta] at c5 ⊢
                                  have G6 := Lib.hid (gb_alloc wr (.cells #[.string tb.nm, .slice Y.ka Y.kn Y.kc, .slice Y.ca Y.cn Y.cc, .int .i64 tb.da, .slice Y.ra Y.rn Y.rc, .int .i64 tb.sz] 130) none)
                                  have BT := IsB.new wr 130 #[.string tb.nm, .slice Y.ka Y.kn Y.kc, .slice Y.ca Y.cn Y.cc, .int .i64 tb.da, .slice Y.ra Y.rn Y.rc, .int .i64 tb.sz]
                                  replace BT := Lib.hid BT
                                  go_upto_region 22 with fail
                                  generalize wr.alloc (.cells #[.string tb.nm, .slice Y.ka Y.kn Y.kc, .slice Y.ca Y.cn Y.cc, .int .i64 tb.da, .slice Y.ra Y.rn Y.rc, .int .i64 tb.sz] 130) = w6 at *
                                  obtain ⟨b7, hb7⟩ : ∃ b, b = wr.heap.size := ⟨_, rfl⟩
                                  have Lb7 := Lib.hid (show wr.heap.size ≤ b7 by rw [hb7]; exact Nat.le_refl _)
                                  rw [← hb7] at BT ⊢
                                  clear hb7
                                  clear e0 e1 e2 e3 e4 e5 c5
                                  have GG := Lib.hid (gb_trans G.out G6.out)
                                  have d0 := (BT.out.keep0 (gb_refl _ _)).cell 0
                                  have d1 := (BT.out.keep0 (gb_refl _ _)).cell 1
                                  have d2 := (BT.out.keep0 (gb_refl _ _)).cell 2
                                  have d3 := (BT.out.keep0 (gb_refl _ _)).cell 3
                                  have d4 := (BT.out.keep0 (gb_refl _ _)).cell 4
                                  have d5 := (BT.out.keep0 (gb_refl _ _)).cell 5
                                  dsimp at d0 d1 d2 d3 d4 d5
                                  by_cases q : (40 : Int) < (tb.nm.size : Int)
                                  · go_wp2
                                    go_ret
                                    exact ⟨false, rfl, gb_trans G2.out GG.out, fun h => by cases h⟩
                                  · by_cases q2 : (10 : Int) < Y.kn
                                    · go_wp2
                                      go_ret
                                      exact ⟨false, rfl, gb_trans G2.out GG.out, fun h => by cases h⟩
                                    · by_cases q3 : (24 : Int) < Y.cn
                                      · go_wp2
                                        go_ret
                                        exact ⟨false, rfl, gb_trans G2.out GG.out, fun h => by cases h⟩
                                      · by_cases q4 : (10 : Int) < Y.rn
                                        · go_wp2
                                          go_ret
                                          exact ⟨false, rfl, gb_trans G2.out GG.out, fun h => by cases h⟩
                                        · have N2 := Lib.hid (NX.out ⟨by omega, by have := LK.out; omega, by have := LC.out; omega, by have := LR.out; omega⟩)
                                          go_wp2
                                          go_roundw
                                          case rel => exact ⟨j + 1, by omega, by first | rfl | (congr 1), N2.out, GG.out⟩
                                          case measure => simp [intOf]; omega
                                · have i1 : ¬ (j : Int) < X.tn := by omega
                                  have GS := Lib.hid G.out
                                  have JN := Lib.hid (show j = X.tn by omega)
                                  clear hlt
                                  have TQ := Lib.hid (show smP P from ⟨by have := T6.out; have := HP.out.t.len; omega, by have := A6.out; have := HP.out.a.len; omega, by have := M6.out; have := HP.out.m.len; omega, fun x hx => HB.out x (by have := HP.out.t.len; have := JN.out; omega)⟩)
                                  have BD := Lib.hid S6.out
                                  clear HB JN
                                  go_wp2
                                  clear c5 i1 hj
                                  go_loopw [8] (fun i wr => ∃ j : Nat, j ≤ X.sn ∧ i = .int .i64 j ∧ w2.grownBy wr none) (fun i _ => X.sn - (intOf i).toNat)
                                  case atStart => exact ⟨0, Nat.zero_le _, rfl, GS.out⟩
                                  case round =>
                                    obtain ⟨j, hj, rfl, hg⟩ := hrel
                                    have G := Lib.hid hg
                                    clear hg GS
                                    have c6 := (B1.out.keep0 G.out).cell 6
                                    dsimp at c6
                                    by_cases hlt : j < X.sn
                                    · have i1 : (j : Int) < X.sn := by omega
                                      have i0 : (0 : Int) ≤ (j : Int) := by omega
                                      have hw : IntKind.i64.wrap ((j : Int) + 1) = ((j + 1 : Nat) : Int) := by have := BD.out; rw [IntKind.wrap_i64]; omega
                                      obtain ⟨ad, had⟩ := HP.out.s.some (by omega)
                                      obtain ⟨e0, ⟨xa, xn, xc, e1, _⟩, _, _, _, ⟨ya, yn, yc, e5, _⟩, _⟩ := (HP.out.s.keep0SPs G.out).cells ad had j hlt
                                      generalize (P.S.getD j psz).nm = nm at *
                                      rw [had] at c6 ⊢
                                      by_cases q : (40 : Int) < (nm.size : Int)
                                      · go_wp2
                                        go_ret
                                        exact ⟨false, rfl, gb_trans G2.out G.out, fun h => by cases h⟩
                                      · by_cases q2 : (8 : Int) < xn
                                        · go_wp2
                                          go_ret
                                          exact ⟨false, rfl, gb_trans G2.out G.out, fun h => by cases h⟩
                                        · by_cases q3 : (16 : Int) < yn
                                          · go_wp2
                                            go_ret
                                            exact ⟨false, rfl, gb_trans G2.out G.out, fun h => by cases h⟩
                                          · go_wp2
                                            go_roundw
                                            case rel => exact ⟨j + 1, by omega, by first | rfl | (congr 1), G.out⟩
                                            case measure => simp [intOf]; omega
                                    · have i1 : ¬ (j : Int) < X.sn := by omega
                                      have GS := Lib.hid G.out
                                      have JN := Lib.hid (show j = X.sn by omega)
                                      clear hlt
                                      go_wp2
                                      go_ret
                                      exact ⟨true, rfl, gb_trans G2.out GS.out, fun _ => TQ.out⟩
end Go.Proofs.Ytdbjeihbfooipaa.Tb
end
section
/- Control: the reference's Check; no condition but that the tree lies in memory and is not large, and the tables are not many. -/
namespace Go.Proofs.Ytdbjeihbfooipaa
open Go.RowKit
set_option linter.unusedVariables false
theorem tab_mem {L : List CV} {j : Nat} (h : j < L.length) (t : Int) : t ∈ tabL (L.take (j + 1)) ↔ t ∈ tabL (L.take j) ∨ (appl (L.getD j cz) = true ∧ (L.getD j cz).t = t) := by
  rw [take_pre L j h]
  cases e : appl (L.getD j cz) with
  | true => rw [tabL_yes _ _ e, List.mem_append, List.mem_singleton]; constructor <;> (intro q; rcases q with q | q <;> simp_all)
  | false => rw [tabL_no _ _ e]; simp
set_option maxRecDepth 100000 in
set_option maxHeartbeats 16000000 in
theorem rapp_any (w : World) (a : Option Addr) (n c : Nat) (L : List CV) (hL : C5 w a n c L) (i : Nat) (hi : i < n) (hn : n ≤ 1000000) :
    Calls Try.prog 106 #[.slice a n c, .int .i64 (i : Int)] w (RetV (.bool (decide ((L.getD i cz).t ∈ tabL (L.take i)))) w) := by
  obtain ⟨ad, rfl⟩ := hL.some (by omega)
  have HL := Lib.hid hL
  have ncap := hL.cap
  have LN := Lib.hid hL.len
  have XT := hL.cells ad rfl i hi
  obtain ⟨x, hx⟩ : ∃ x, x = L.getD i cz := ⟨_, rfl⟩
  rw [← hx] at XT ⊢
  have XT0 := Lib.hid XT.2.1
  clear hL XT hx
  have hin : (i : Int) < n := by omega
  have hi0 : (0 : Int) ≤ (i : Int) := by omega
  go_enter Try.func106, Try.ntmps106
  go_wp2
  go_loopw [5] (fun s5 wr => ∃ (j : Nat), s5 = .int .i64 (j : Int) ∧ j ≤ i ∧ ¬ x.t ∈ tabL (L.take j) ∧ w.grownBy wr none) (fun s5 _ => i - (intOf s5).toNat)
  case atStart => exact ⟨0, rfl, Nat.zero_le _, by simp [tabL], gb_refl _ _⟩
  case round =>
    obtain ⟨j, rfl, hj, hno, hgr⟩ := hrel
    have NO := Lib.hid hno
    have GR := Lib.hid hgr
    clear hno hgr
    by_cases hlt : j < i
    · have i1 : (j : Int) < i := by omega
      have i0 : (0 : Int) ≤ (j : Int) := by omega
      have i2 : (j : Int) < n := by omega
      have TM := Lib.hid (tab_mem (L := L) (j := j) (by rw [LN.out]; omega) x.t)
      obtain ⟨y0, y1, y2, y3, y4⟩ := HL.out.cells ad rfl j (by omega)
      obtain ⟨y, hy⟩ : ∃ y, y = L.getD j cz := ⟨_, rfl⟩
      rw [← hy] at y0 y1 y2 y3 y4 TM
      clear hy
      have Y0 := Lib.hid (GR.out.cell y0 (by simp))
      have Y1 := Lib.hid (GR.out.cell y1 (by simp))
      have Y2 := Lib.hid (GR.out.cell y2 (by simp))
      have Y3 := Lib.hid (GR.out.cell y3 (by simp))
      have Y4 := Lib.hid (GR.out.cell y4 (by simp))
      have XT := Lib.hid (GR.out.cell XT0.out (by simp))
      have AP := Lib.hid (fun w => applies_any w y)
      unfold RetV at AP
      clear y0 y1 y2 y3 y4
      cases hap : appl y with
      | false =>
        have NN := Lib.hid (show ¬ x.t ∈ tabL (L.take (j + 1)) by rw [TM.out, hap]; intro q; rcases q with q | q; (· exact NO.out q); exact absurd q.1 (by decide))
        rw [hap] at AP
        clear hap
        go_wp2
        have KV := Lib.hid (fun (w' : World) (q0 : wr.grownBy w' none) => (⟨q0.cell Y0.out (by simp), q0.cell Y1.out (by simp), q0.cell Y2.out (by simp), q0.cell Y3.out (by simp), q0.cell Y4.out (by simp), q0.cell XT.out (by simp), q0⟩ : (fun w' : World => w'.cell? (ad.add (j * 5)) = some (.int .i64 y.k) ∧ w'.cell? ⟨(ad.add (j * 5)).block, (ad.add (j * 5)).off + 1, none⟩ = some (.int .i64 y.t) ∧ w'.cell? ⟨(ad.add (j * 5)).block, (ad.add (j * 5)).off + 2, none⟩ = some (.slice y.c.a y.c.n y.c.c) ∧ w'.cell? ⟨(ad.add (j * 5)).block, (ad.add (j * 5)).off + 3, none⟩ = some (.slice y.s.a y.s.n y.s.c) ∧ w'.cell? ⟨(ad.add (j * 5)).block, (ad.add (j * 5)).off + 4, none⟩ = some (.slice y.u.a y.u.n y.u.c) ∧ w'.cell? ⟨(ad.add (i * 5)).block, (ad.add (i * 5)).off + 1, none⟩ = some (.int .i64 x.t) ∧ wr.grownBy w' none) w'))
        have V0 := Lib.hid (gb_drew wr none)
        refine wp_region_held_drew (S := (fun w' : World => w'.cell? (ad.add (j * 5)) = some (.int .i64 y.k) ∧ w'.cell? ⟨(ad.add (j * 5)).block, (ad.add (j * 5)).off + 1, none⟩ = some (.int .i64 y.t) ∧ w'.cell? ⟨(ad.add (j * 5)).block, (ad.add (j * 5)).off + 2, none⟩ = some (.slice y.c.a y.c.n y.c.c) ∧ w'.cell? ⟨(ad.add (j * 5)).block, (ad.add (j * 5)).off + 3, none⟩ = some (.slice y.s.a y.s.n y.s.c) ∧ w'.cell? ⟨(ad.add (j * 5)).block, (ad.add (j * 5)).off + 4, none⟩ = some (.slice y.u.a y.u.n y.u.c) ∧ w'.cell? ⟨(ad.add (i * 5)).block, (ad.add (i * 5)).off + 1, none⟩ = some (.int .i64 x.t) ∧ wr.grownBy w' none)) (by kernel_rfl) (KV.out _ V0.out) (fun hH0 => ?_)
        refine wpAnyH_take (i := 0) (v := ?v16001) rfl (by kernel_rfl) (by kernel_rfl) (by kernel_rfl) (fun _ _ _ h => h) (Or.inl ⟨by rfl, ?hy16001⟩) (by assumption) ?rest16001
        case hy16001 => (intro wz hSw; (try dsimp only at hSw); first | (go_simp; done) | (go_simp; with_reducible rfl))
        try simp only [Act.put, List.getElem_toArray, List.getElem_cons_zero, List.setIfInBounds_toArray, List.set_cons_zero, List.set_cons_succ]
        refine wpAnyH_take (i := 1) (v := ?v16002) rfl (by kernel_rfl) (by kernel_rfl) (by kernel_rfl) (fun _ _ _ h => h) (Or.inl ⟨by rfl, ?hy16002⟩) (by assumption) ?rest16002
        case hy16002 => (intro wz hSw; (try dsimp only at hSw); first | (go_simp; done) | (go_simp; with_reducible rfl))
        try simp only [Act.put, List.getElem_toArray, List.getElem_cons_succ, List.getElem_cons_zero, List.setIfInBounds_toArray, List.set_cons_zero, List.set_cons_succ]
        refine wpAnyH_take (i := 2) (v := ?v16003) rfl (by kernel_rfl) (by kernel_rfl) (by kernel_rfl) (fun _ _ _ h => h) (Or.inl ⟨by rfl, ?hy16003⟩) (by assumption) ?rest16003
        case hy16003 => (intro wz hSw; (try dsimp only at hSw); first | (go_simp; done) | (go_simp; with_reducible rfl))
        try simp only [Act.put, List.getElem_toArray, List.getElem_cons_succ, List.getElem_cons_zero, List.setIfInBounds_toArray, List.set_cons_zero, List.set_cons_succ]
        refine wpAnyH_take (i := 3) (v := ?v16004) rfl (by kernel_rfl) (by kernel_rfl) (by kernel_rfl) (fun _ _ _ h => h) (Or.inl ⟨by rfl, ?hy16004⟩) (by assumption) ?rest16004
        case hy16004 => (intro wz hSw; (try dsimp only at hSw); first | (go_simp; done) | (go_simp; with_reducible rfl))
        try simp only [Act.put, List.getElem_toArray, List.getElem_cons_succ, List.getElem_cons_zero, List.setIfInBounds_toArray, List.set_cons_zero, List.set_cons_succ]
        refine wpAnyH_ready (rs := [4]) (by kernel_rfl) (by simp) ?_
        refine AllReadyH.cons (o := _) rfl (fun K hK => ?_) AllReadyH.nil
        go_simp
        (with_reducible refine (AP.out _).mono ?_)
        rintro e vw1 ⟨rfl, g⟩
        have V1 := Lib.hid (gb_trans V0.out g)
        clear g
        try dsimp only
        refine hK.out _ _ (KV.out _ V1.out) (fun hH1 => ?_)
        clear hK K hH0
        try simp only [Act.put, List.getElem_toArray, List.getElem_cons_succ, List.getElem_cons_zero, List.setIfInBounds_toArray, List.set_cons_zero, List.set_cons_succ]
        refine wpAnyH_take (i := 5) (v := ?v16005) rfl (by kernel_rfl) (by kernel_rfl) (by kernel_rfl) (fun _ _ _ h => h) (Or.inl ⟨by rfl, ?hy16005⟩) (by assumption) ?rest16005
        case hy16005 => (intro wz hSw; (try dsimp only at hSw); first | (go_simp; done) | (go_simp; with_reducible rfl))
        try simp only [Act.put, List.getElem_toArray, List.getElem_cons_succ, List.getElem_cons_zero, List.setIfInBounds_toArray, List.set_cons_zero, List.set_cons_succ]
        refine wpAnyH_take (i := 6) (v := undef) rfl (by kernel_rfl) (by kernel_rfl) (by kernel_rfl) (fun _ _ _ h => h) (Or.inr ⟨by rfl, rfl⟩) (by assumption) ?_
        try simp only [Act.put, List.getElem_toArray, List.getElem_cons_succ, List.getElem_cons_zero, List.setIfInBounds_toArray, List.set_cons_zero, List.set_cons_succ]
        refine wpAnyH_take (i := 7) (v := undef) rfl (by kernel_rfl) (by kernel_rfl) (by kernel_rfl) (fun _ _ _ h => h) (Or.inr ⟨by rfl, rfl⟩) (by assumption) ?_
        try simp only [Act.put, List.getElem_toArray, List.getElem_cons_succ, List.getElem_cons_zero, List.setIfInBounds_toArray, List.set_cons_zero, List.set_cons_succ]
        refine wpAnyH_take (i := 8) (v := undef) rfl (by kernel_rfl) (by kernel_rfl) (by kernel_rfl) (fun _ _ _ h => h) (Or.inr ⟨by rfl, rfl⟩) (by assumption) ?_
        try simp only [Act.put, List.getElem_toArray, List.getElem_cons_succ, List.getElem_cons_zero, List.setIfInBounds_toArray, List.set_cons_zero, List.set_cons_succ]
        refine wpAnyH_take (i := 9) (v := undef) rfl (by kernel_rfl) (by kernel_rfl) (by kernel_rfl) (fun _ _ _ h => h) (Or.inr ⟨by rfl, rfl⟩) (by assumption) ?_
        try simp only [Act.put, List.getElem_toArray, List.getElem_cons_succ, List.getElem_cons_zero, List.setIfInBounds_toArray, List.set_cons_zero, List.set_cons_succ]
        refine wpAnyH_take (i := 10) (v := undef) rfl (by kernel_rfl) (by kernel_rfl) (by kernel_rfl) (fun _ _ _ h => h) (Or.inr ⟨by rfl, rfl⟩) (by assumption) ?_
        try simp only [Act.put, List.getElem_toArray, List.getElem_cons_succ, List.getElem_cons_zero, List.setIfInBounds_toArray, List.set_cons_zero, List.set_cons_succ]
        refine wpAnyH_take (i := 11) (v := undef) rfl (by kernel_rfl) (by kernel_rfl) (by kernel_rfl) (fun _ _ _ h => h) (Or.inr ⟨by rfl, rfl⟩) (by assumption) ?_
        try simp only [Act.put, List.getElem_toArray, List.getElem_cons_succ, List.getElem_cons_zero, List.setIfInBounds_toArray, List.set_cons_zero, List.set_cons_succ]
        refine wpAnyH_take (i := 12) (v := undef) rfl (by kernel_rfl) (by kernel_rfl) (by kernel_rfl) (fun _ _ _ h => h) (Or.inr ⟨by rfl, rfl⟩) (by assumption) ?_
        try simp only [Act.put, List.getElem_toArray, List.getElem_cons_succ, List.getElem_cons_zero, List.setIfInBounds_toArray, List.set_cons_zero, List.set_cons_succ]
        refine wpAnyH_take (i := 13) (v := undef) rfl (by kernel_rfl) (by kernel_rfl) (by kernel_rfl) (fun _ _ _ h => h) (Or.inr ⟨by rfl, rfl⟩) (by assumption) ?_
        try simp only [Act.put, List.getElem_toArray, List.getElem_cons_succ, List.getElem_cons_zero, List.setIfInBounds_toArray, List.set_cons_zero, List.set_cons_succ]
        refine wpAnyH_take (i := 14) (v := undef) rfl (by kernel_rfl) (by kernel_rfl) (by kernel_rfl) (fun _ _ _ h => h) (Or.inr ⟨by rfl, rfl⟩) (by assumption) ?_
        try simp only [Act.put, List.getElem_toArray, List.getElem_cons_succ, List.getElem_cons_zero, List.setIfInBounds_toArray, List.set_cons_zero, List.set_cons_succ]
        refine wpAnyH_take (i := 15) (v := undef) rfl (by kernel_rfl) (by kernel_rfl) (by kernel_rfl) (fun _ _ _ h => h) (Or.inr ⟨by rfl, rfl⟩) (by assumption) ?_
        try simp only [Act.put, List.getElem_toArray, List.getElem_cons_succ, List.getElem_cons_zero, List.setIfInBounds_toArray, List.set_cons_zero, List.set_cons_succ]
        refine wpAnyH_take (i := 16) (v := undef) rfl (by kernel_rfl) (by kernel_rfl) (by kernel_rfl) (fun _ _ _ h => h) (Or.inr ⟨by rfl, rfl⟩) (by assumption) ?_
        try simp only [Act.put, List.getElem_toArray, List.getElem_cons_succ, List.getElem_cons_zero, List.setIfInBounds_toArray, List.set_cons_zero, List.set_cons_succ]
        refine wpAnyH_take (i := 17) (v := ?v16006) rfl (by kernel_rfl) (by kernel_rfl) (by kernel_rfl) (fun _ _ _ h => h) (Or.inl ⟨by rfl, ?hy16006⟩) (by assumption) ?rest16006
        case hy16006 => (intro wz hSw; (try dsimp only at hSw); first | (go_simp; done) | (go_simp; with_reducible rfl))
        try simp only [Act.put, List.getElem_toArray, List.getElem_cons_succ, List.getElem_cons_zero, List.setIfInBounds_toArray, List.set_cons_zero, List.set_cons_succ]
        refine wpAnyH_done (by kernel_rfl) ?_ _
        clear hH1
        go_wp2
        go_roundw
        case rel => exact ⟨j + 1, by go_num, by omega, NN.out, gb_trans GR.out V1.out⟩
        case measure => simp [intOf]; omega
      | true =>
        rw [hap] at AP
        by_cases ht : y.t = x.t
        · have YY := Lib.hid (show x.t ∈ tabL (L.take i) by
            have q : x.t ∈ tabL (L.take (j + 1)) := TM.out.2 (.inr ⟨hap, ht⟩)
            have p : tabL (L.take (j + 1)) <+: tabL (L.take i) := by
              have z : L.take (j + 1) <+: L.take i := List.take_prefix_take_left (by omega)
              obtain ⟨r, hr⟩ := z
              rw [← hr, tabL_app]
              exact List.prefix_append _ _
            exact p.subset q)
          have Y1 := Lib.hid (show wr.cell? ⟨(ad.add (j * 5)).block, (ad.add (j * 5)).off + 1, none⟩ = some (.int .i64 x.t) by rw [← ht]; exact Y1.out)
          have AP := Lib.hid (fun w => (show Calls Try.prog 78 #[.agg #[.int .i64 y.k, .int .i64 x.t, .slice y.c.a y.c.n y.c.c, .slice y.s.a y.s.n y.s.c, .slice y.u.a y.u.n y.u.c]] w _ by rw [← ht]; exact AP.out w))
          clear hap ht TM
          go_wp2
          have KV := Lib.hid (fun (w' : World) (q0 : wr.grownBy w' none) => (⟨q0.cell Y0.out (by simp), q0.cell Y1.out (by simp), q0.cell Y2.out (by simp), q0.cell Y3.out (by simp), q0.cell Y4.out (by simp), q0.cell XT.out (by simp), q0⟩ : (fun w' : World => w'.cell? (ad.add (j * 5)) = some (.int .i64 y.k) ∧ w'.cell? ⟨(ad.add (j * 5)).block, (ad.add (j * 5)).off + 1, none⟩ = some (.int .i64 x.t) ∧ w'.cell? ⟨(ad.add (j * 5)).block, (ad.add (j * 5)).off + 2, none⟩ = some (.slice y.c.a y.c.n y.c.c) ∧ w'.cell? ⟨(ad.add (j * 5)).block, (ad.add (j * 5)).off + 3, none⟩ = some (.slice y.s.a y.s.n y.s.c) ∧ w'.cell? ⟨(ad.add (j * 5)).block, (ad.add (j * 5)).off + 4, none⟩ = some (.slice y.u.a y.u.n y.u.c) ∧ w'.cell? ⟨(ad.add (i * 5)).block, (ad.add (i * 5)).off + 1, none⟩ = some (.int .i64 x.t) ∧ wr.grownBy w' none) w'))
          have V0 := Lib.hid (gb_drew wr none)
          refine wp_region_held_drew (S := (fun w' : World => w'.cell? (ad.add (j * 5)) = some (.int .i64 y.k) ∧ w'.cell? ⟨(ad.add (j * 5)).block, (ad.add (j * 5)).off + 1, none⟩ = some (.int .i64 x.t) ∧ w'.cell? ⟨(ad.add (j * 5)).block, (ad.add (j * 5)).off + 2, none⟩ = some (.slice y.c.a y.c.n y.c.c) ∧ w'.cell? ⟨(ad.add (j * 5)).block, (ad.add (j * 5)).off + 3, none⟩ = some (.slice y.s.a y.s.n y.s.c) ∧ w'.cell? ⟨(ad.add (j * 5)).block, (ad.add (j * 5)).off + 4, none⟩ = some (.slice y.u.a y.u.n y.u.c) ∧ w'.cell? ⟨(ad.add (i * 5)).block, (ad.add (i * 5)).off + 1, none⟩ = some (.int .i64 x.t) ∧ wr.grownBy w' none)) (by kernel_rfl) (KV.out _ V0.out) (fun hH0 => ?_)
          refine wpAnyH_take (i := 0) (v := ?v16007) rfl (by kernel_rfl) (by kernel_rfl) (by kernel_rfl) (fun _ _ _ h => h) (Or.inl ⟨by rfl, ?hy16007⟩) (by assumption) ?rest16007
          case hy16007 => (intro wz hSw; (try dsimp only at hSw); first | (go_simp; done) | (go_simp; with_reducible rfl))
          try simp only [Act.put, List.getElem_toArray, List.getElem_cons_zero, List.setIfInBounds_toArray, List.set_cons_zero, List.set_cons_succ]
          refine wpAnyH_take (i := 1) (v := ?v16008) rfl (by kernel_rfl) (by kernel_rfl) (by kernel_rfl) (fun _ _ _ h => h) (Or.inl ⟨by rfl, ?hy16008⟩) (by assumption) ?rest16008
          case hy16008 => (intro wz hSw; (try dsimp only at hSw); first | (go_simp; done) | (go_simp; with_reducible rfl))
          try simp only [Act.put, List.getElem_toArray, List.getElem_cons_succ, List.getElem_cons_zero, List.setIfInBounds_toArray, List.set_cons_zero, List.set_cons_succ]
          refine wpAnyH_take (i := 2) (v := ?v16009) rfl (by kernel_rfl) (by kernel_rfl) (by kernel_rfl) (fun _ _ _ h => h) (Or.inl ⟨by rfl, ?hy16009⟩) (by assumption) ?rest16009
          case hy16009 => (intro wz hSw; (try dsimp only at hSw); first | (go_simp; done) | (go_simp; with_reducible rfl))
          try simp only [Act.put, List.getElem_toArray, List.getElem_cons_succ, List.getElem_cons_zero, List.setIfInBounds_toArray, List.set_cons_zero, List.set_cons_succ]
          refine wpAnyH_take (i := 3) (v := ?v16010) rfl (by kernel_rfl) (by kernel_rfl) (by kernel_rfl) (fun _ _ _ h => h) (Or.inl ⟨by rfl, ?hy16010⟩) (by assumption) ?rest16010
          case hy16010 => (intro wz hSw; (try dsimp only at hSw); first | (go_simp; done) | (go_simp; with_reducible rfl))
          try simp only [Act.put, List.getElem_toArray, List.getElem_cons_succ, List.getElem_cons_zero, List.setIfInBounds_toArray, List.set_cons_zero, List.set_cons_succ]
          refine wpAnyH_ready (rs := [4]) (by kernel_rfl) (by simp) ?_
          refine AllReadyH.cons (o := _) rfl (fun K hK => ?_) AllReadyH.nil
          go_simp
          (with_reducible refine (AP.out _).mono ?_)
          rintro e vw1 ⟨rfl, g⟩
          have V1 := Lib.hid (gb_trans V0.out g)
          clear g
          try dsimp only
          refine hK.out _ _ (KV.out _ V1.out) (fun hH1 => ?_)
          clear hK K hH0
          try simp only [Act.put, List.getElem_toArray, List.getElem_cons_succ, List.getElem_cons_zero, List.setIfInBounds_toArray, List.set_cons_zero, List.set_cons_succ]
          refine wpAnyH_take (i := 5) (v := ?v16011) rfl (by kernel_rfl) (by kernel_rfl) (by kernel_rfl) (fun _ _ _ h => h) (Or.inl ⟨by rfl, ?hy16011⟩) (by assumption) ?rest16011
          case hy16011 => (intro wz hSw; (try dsimp only at hSw); first | (go_simp; done) | (go_simp; with_reducible rfl))
          try simp only [Act.put, List.getElem_toArray, List.getElem_cons_succ, List.getElem_cons_zero, List.setIfInBounds_toArray, List.set_cons_zero, List.set_cons_succ]
          refine wpAnyH_take (i := 6) (v := ?v16012) rfl (by kernel_rfl) (by kernel_rfl) (by kernel_rfl) (fun _ _ _ h => h) (Or.inl ⟨by rfl, ?hy16012⟩) (by assumption) ?rest16012
          case hy16012 => (intro wz hSw; (try dsimp only at hSw); first | (go_simp; done) | (go_simp; with_reducible rfl))
          try simp only [Act.put, List.getElem_toArray, List.getElem_cons_succ, List.getElem_cons_zero, List.setIfInBounds_toArray, List.set_cons_zero, List.set_cons_succ]
          refine wpAnyH_take (i := 7) (v := ?v16013) rfl (by kernel_rfl) (by kernel_rfl) (by kernel_rfl) (fun _ _ _ h => h) (Or.inl ⟨by rfl, ?hy16013⟩) (by assumption) ?rest16013
          case hy16013 => (intro wz hSw; (try dsimp only at hSw); first | (go_simp; done) | (go_simp; with_reducible rfl))
          try simp only [Act.put, List.getElem_toArray, List.getElem_cons_succ, List.getElem_cons_zero, List.setIfInBounds_toArray, List.set_cons_zero, List.set_cons_succ]
          refine wpAnyH_take (i := 8) (v := ?v16014) rfl (by kernel_rfl) (by kernel_rfl) (by kernel_rfl) (fun _ _ _ h => h) (Or.inl ⟨by rfl, ?hy16014⟩) (by assumption) ?rest16014
          case hy16014 => (intro wz hSw; (try dsimp only at hSw); first | (go_simp; done) | (go_simp; with_reducible rfl))
          try simp only [Act.put, List.getElem_toArray, List.getElem_cons_succ, List.getElem_cons_zero, List.setIfInBounds_toArray, List.set_cons_zero, List.set_cons_succ]
          refine wpAnyH_take (i := 9) (v := ?v16015) rfl (by kernel_rfl) (by kernel_rfl) (by kernel_rfl) (fun _ _ _ h => h) (Or.inl ⟨by rfl, ?hy16015⟩) (by assumption) ?rest16015
          case hy16015 => (intro wz hSw; (try dsimp only at hSw); first | (go_simp; done) | (go_simp; with_reducible rfl))
          try simp only [Act.put, List.getElem_toArray, List.getElem_cons_succ, List.getElem_cons_zero, List.setIfInBounds_toArray, List.set_cons_zero, List.set_cons_succ]
          refine wpAnyH_take (i := 10) (v := ?v16016) rfl (by kernel_rfl) (by kernel_rfl) (by kernel_rfl) (fun _ _ _ h => h) (Or.inl ⟨by rfl, ?hy16016⟩) (by assumption) ?rest16016
          case hy16016 => (intro wz hSw; (try dsimp only at hSw); first | (go_simp; done) | (go_simp; with_reducible rfl))
          try simp only [Act.put, List.getElem_toArray, List.getElem_cons_succ, List.getElem_cons_zero, List.setIfInBounds_toArray, List.set_cons_zero, List.set_cons_succ]
          refine wpAnyH_take (i := 11) (v := ?v16017) rfl (by kernel_rfl) (by kernel_rfl) (by kernel_rfl) (fun _ _ _ h => h) (Or.inl ⟨by rfl, ?hy16017⟩) (by assumption) ?rest16017
          case hy16017 => (intro wz hSw; (try dsimp only at hSw); first | (go_simp; done) | (go_simp; with_reducible rfl))
          try simp only [Act.put, List.getElem_toArray, List.getElem_cons_succ, List.getElem_cons_zero, List.setIfInBounds_toArray, List.set_cons_zero, List.set_cons_succ]
          refine wpAnyH_take (i := 12) (v := ?v16018) rfl (by kernel_rfl) (by kernel_rfl) (by kernel_rfl) (fun _ _ _ h => h) (Or.inl ⟨by rfl, ?hy16018⟩) (by assumption) ?rest16018
          case hy16018 => (intro wz hSw; (try dsimp only at hSw); first | (go_simp; done) | (go_simp; with_reducible rfl))
          try simp only [Act.put, List.getElem_toArray, List.getElem_cons_succ, List.getElem_cons_zero, List.setIfInBounds_toArray, List.set_cons_zero, List.set_cons_succ]
          refine wpAnyH_take (i := 13) (v := ?v16019) rfl (by kernel_rfl) (by kernel_rfl) (by kernel_rfl) (fun _ _ _ h => h) (Or.inl ⟨by rfl, ?hy16019⟩) (by assumption) ?rest16019
          case hy16019 => (intro wz hSw; (try dsimp only at hSw); first | (go_simp; done) | (go_simp; with_reducible rfl))
          try simp only [Act.put, List.getElem_toArray, List.getElem_cons_succ, List.getElem_cons_zero, List.setIfInBounds_toArray, List.set_cons_zero, List.set_cons_succ]
          refine wpAnyH_take (i := 14) (v := ?v16020) rfl (by kernel_rfl) (by kernel_rfl) (by kernel_rfl) (fun _ _ _ h => h) (Or.inl ⟨by rfl, ?hy16020⟩) (by assumption) ?rest16020
          case hy16020 => (intro wz hSw; (try dsimp only at hSw); first | (go_simp; done) | (go_simp; with_reducible rfl))
          try simp only [Act.put, List.getElem_toArray, List.getElem_cons_succ, List.getElem_cons_zero, List.setIfInBounds_toArray, List.set_cons_zero, List.set_cons_succ]
          refine wpAnyH_take (i := 15) (v := ?v16021) rfl (by kernel_rfl) (by kernel_rfl) (by kernel_rfl) (fun _ _ _ h => h) (Or.inl ⟨by rfl, ?hy16021⟩) (by assumption) ?rest16021
          case hy16021 => (intro wz hSw; (try dsimp only at hSw); first | (go_simp; done) | (go_simp; with_reducible rfl))
          try simp only [Act.put, List.getElem_toArray, List.getElem_cons_succ, List.getElem_cons_zero, List.setIfInBounds_toArray, List.set_cons_zero, List.set_cons_succ]
          refine wpAnyH_take (i := 16) (v := ?v16022) rfl (by kernel_rfl) (by kernel_rfl) (by kernel_rfl) (fun _ _ _ h => h) (Or.inl ⟨by rfl, ?hy16022⟩) (by assumption) ?rest16022
          case hy16022 => (intro wz hSw; (try dsimp only at hSw); first | (go_simp; done) | (go_simp; with_reducible rfl))
          try simp only [Act.put, List.getElem_toArray, List.getElem_cons_succ, List.getElem_cons_zero, List.setIfInBounds_toArray, List.set_cons_zero, List.set_cons_succ]
          refine wpAnyH_take (i := 17) (v := ?v16023) rfl (by kernel_rfl) (by kernel_rfl) (by kernel_rfl) (fun _ _ _ h => h) (Or.inl ⟨by rfl, ?hy16023⟩) (by assumption) ?rest16023
          case hy16023 => (intro wz hSw; (try dsimp only at hSw); first | (go_simp; done) | (go_simp; with_reducible rfl))
          try simp only [Act.put, List.getElem_toArray, List.getElem_cons_succ, List.getElem_cons_zero, List.setIfInBounds_toArray, List.set_cons_zero, List.set_cons_succ]
          refine wpAnyH_done (by kernel_rfl) ?_ _
          clear hH1
          have GZ := Lib.hid (gb_trans GR.out V1.out)
          go_wp2
          go_ret
          exact ⟨by rw [decide_eq_true YY.out] <;> rfl, GZ.out⟩
        · have NN := Lib.hid (show ¬ x.t ∈ tabL (L.take (j + 1)) by rw [TM.out]; intro q; rcases q with q | q; (· exact NO.out q); exact ht q.2)
          have e1 : (y.t == x.t) = false := by rw [beq_eq_false_iff_ne]; exact ht
          have e2 : decide (y.t = x.t) = false := decide_eq_false ht
          clear hap
          go_wp2
          have KV := Lib.hid (fun (w' : World) (q0 : wr.grownBy w' none) => (⟨q0.cell Y0.out (by simp), q0.cell Y1.out (by simp), q0.cell Y2.out (by simp), q0.cell Y3.out (by simp), q0.cell Y4.out (by simp), q0.cell XT.out (by simp), q0⟩ : (fun w' : World => w'.cell? (ad.add (j * 5)) = some (.int .i64 y.k) ∧ w'.cell? ⟨(ad.add (j * 5)).block, (ad.add (j * 5)).off + 1, none⟩ = some (.int .i64 y.t) ∧ w'.cell? ⟨(ad.add (j * 5)).block, (ad.add (j * 5)).off + 2, none⟩ = some (.slice y.c.a y.c.n y.c.c) ∧ w'.cell? ⟨(ad.add (j * 5)).block, (ad.add (j * 5)).off + 3, none⟩ = some (.slice y.s.a y.s.n y.s.c) ∧ w'.cell? ⟨(ad.add (j * 5)).block, (ad.add (j * 5)).off + 4, none⟩ = some (.slice y.u.a y.u.n y.u.c) ∧ w'.cell? ⟨(ad.add (i * 5)).block, (ad.add (i * 5)).off + 1, none⟩ = some (.int .i64 x.t) ∧ wr.grownBy w' none) w'))
          have V0 := Lib.hid (gb_drew wr none)
          refine wp_region_held_drew (S := (fun w' : World => w'.cell? (ad.add (j * 5)) = some (.int .i64 y.k) ∧ w'.cell? ⟨(ad.add (j * 5)).block, (ad.add (j * 5)).off + 1, none⟩ = some (.int .i64 y.t) ∧ w'.cell? ⟨(ad.add (j * 5)).block, (ad.add (j * 5)).off + 2, none⟩ = some (.slice y.c.a y.c.n y.c.c) ∧ w'.cell? ⟨(ad.add (j * 5)).block, (ad.add (j * 5)).off + 3, none⟩ = some (.slice y.s.a y.s.n y.s.c) ∧ w'.cell? ⟨(ad.add (j * 5)).block, (ad.add (j * 5)).off + 4, none⟩ = some (.slice y.u.a y.u.n y.u.c) ∧ w'.cell? ⟨(ad.add (i * 5)).block, (ad.add (i * 5)).off + 1, none⟩ = some (.int .i64 x.t) ∧ wr.grownBy w' none)) (by kernel_rfl) (KV.out _ V0.out) (fun hH0 => ?_)
          refine wpAnyH_take (i := 0) (v := ?v16024) rfl (by kernel_rfl) (by kernel_rfl) (by kernel_rfl) (fun _ _ _ h => h) (Or.inl ⟨by rfl, ?hy16024⟩) (by assumption) ?rest16024
          case hy16024 => (intro wz hSw; (try dsimp only at hSw); first | (go_simp; done) | (go_simp; with_reducible rfl))
          try simp only [Act.put, List.getElem_toArray, List.getElem_cons_zero, List.setIfInBounds_toArray, List.set_cons_zero, List.set_cons_succ]
          refine wpAnyH_take (i := 1) (v := ?v16025) rfl (by kernel_rfl) (by kernel_rfl) (by kernel_rfl) (fun _ _ _ h => h) (Or.inl ⟨by rfl, ?hy16025⟩) (by assumption) ?rest16025
          case hy16025 => (intro wz hSw; (try dsimp only at hSw); first | (go_simp; done) | (go_simp; with_reducible rfl))
          try simp only [Act.put, List.getElem_toArray, List.getElem_cons_succ, List.getElem_cons_zero, List.setIfInBounds_toArray, List.set_cons_zero, List.set_cons_succ]
          refine wpAnyH_take (i := 2) (v := ?v16026) rfl (by kernel_rfl) (by kernel_rfl) (by kernel_rfl) (fun _ _ _ h => h) (Or.inl ⟨by rfl, ?hy16026⟩) (by assumption) ?rest16026
          case hy16026 => (intro wz hSw; (try dsimp only at hSw); first | (go_simp; done) | (go_simp; with_reducible rfl))
          try simp only [Act.put, List.getElem_toArray, List.getElem_cons_succ, List.getElem_cons_zero, List.setIfInBounds_toArray, List.set_cons_zero, List.set_cons_succ]
          refine wpAnyH_take (i := 3) (v := ?v16027) rfl (by kernel_rfl) (by kernel_rfl) (by kernel_rfl) (fun _ _ _ h => h) (Or.inl ⟨by rfl, ?hy16027⟩) (by assumption) ?rest16027
          case hy16027 => (intro wz hSw; (try dsimp only at hSw); first | (go_simp; done) | (go_simp; with_reducible rfl))
          try simp only [Act.put, List.getElem_toArray, List.getElem_cons_succ, List.getElem_cons_zero, List.setIfInBounds_toArray, List.set_cons_zero, List.set_cons_succ]
          refine wpAnyH_ready (rs := [4]) (by kernel_rfl) (by simp) ?_
          refine AllReadyH.cons (o := _) rfl (fun K hK => ?_) AllReadyH.nil
          go_simp
          (with_reducible refine (AP.out _).mono ?_)
          rintro e vw1 ⟨rfl, g⟩
          have V1 := Lib.hid (gb_trans V0.out g)
          clear g
          try dsimp only
          refine hK.out _ _ (KV.out _ V1.out) (fun hH1 => ?_)
          clear hK K hH0
          try simp only [Act.put, List.getElem_toArray, List.getElem_cons_succ, List.getElem_cons_zero, List.setIfInBounds_toArray, List.set_cons_zero, List.set_cons_succ]
          refine wpAnyH_take (i := 5) (v := ?v16028) rfl (by kernel_rfl) (by kernel_rfl) (by kernel_rfl) (fun _ _ _ h => h) (Or.inl ⟨by rfl, ?hy16028⟩) (by assumption) ?rest16028
          case hy16028 => (intro wz hSw; (try dsimp only at hSw); first | (go_simp; done) | (go_simp; with_reducible rfl))
          try simp only [Act.put, List.getElem_toArray, List.getElem_cons_succ, List.getElem_cons_zero, List.setIfInBounds_toArray, List.set_cons_zero, List.set_cons_succ]
          refine wpAnyH_take (i := 6) (v := ?v16029) rfl (by kernel_rfl) (by kernel_rfl) (by kernel_rfl) (fun _ _ _ h => h) (Or.inl ⟨by rfl, ?hy16029⟩) (by assumption) ?rest16029
          case hy16029 => (intro wz hSw; (try dsimp only at hSw); first | (go_simp; done) | (go_simp; with_reducible rfl))
          try simp only [Act.put, List.getElem_toArray, List.getElem_cons_succ, List.getElem_cons_zero, List.setIfInBounds_toArray, List.set_cons_zero, List.set_cons_succ]
          refine wpAnyH_take (i := 7) (v := ?v16030) rfl (by kernel_rfl) (by kernel_rfl) (by kernel_rfl) (fun _ _ _ h => h) (Or.inl ⟨by rfl, ?hy16030⟩) (by assumption) ?rest16030
          case hy16030 => (intro wz hSw; (try dsimp only at hSw); first | (go_simp; done) | (go_simp; with_reducible rfl))
          try simp only [Act.put, List.getElem_toArray, List.getElem_cons_succ, List.getElem_cons_zero, List.setIfInBounds_toArray, List.set_cons_zero, List.set_cons_succ]
          refine wpAnyH_take (i := 8) (v := ?v16031) rfl (by kernel_rfl) (by kernel_rfl) (by kernel_rfl) (fun _ _ _ h => h) (Or.inl ⟨by rfl, ?hy16031⟩) (by assumption) ?rest16031
          case hy16031 => (intro wz hSw; (try dsimp only at hSw); first | (go_simp; done) | (go_simp; with_reducible rfl))
          try simp only [Act.put, List.getElem_toArray, List.getElem_cons_succ, List.getElem_cons_zero, List.setIfInBounds_toArray, List.set_cons_zero, List.set_cons_succ]
          refine wpAnyH_take (i := 9) (v := ?v16032) rfl (by kernel_rfl) (by kernel_rfl) (by kernel_rfl) (fun _ _ _ h => h) (Or.inl ⟨by rfl, ?hy16032⟩) (by assumption) ?rest16032
          case hy16032 => (intro wz hSw; (try dsimp only at hSw); first | (go_simp; done) | (go_simp; with_reducible rfl))
          try simp only [Act.put, List.getElem_toArray, List.getElem_cons_succ, List.getElem_cons_zero, List.setIfInBounds_toArray, List.set_cons_zero, List.set_cons_succ]
          refine wpAnyH_take (i := 10) (v := ?v16033) rfl (by kernel_rfl) (by kernel_rfl) (by kernel_rfl) (fun _ _ _ h => h) (Or.inl ⟨by rfl, ?hy16033⟩) (by assumption) ?rest16033
          case hy16033 => (intro wz hSw; (try dsimp only at hSw); first | (go_simp; done) | (go_simp; with_reducible rfl))
          try simp only [Act.put, List.getElem_toArray, List.getElem_cons_succ, List.getElem_cons_zero, List.setIfInBounds_toArray, List.set_cons_zero, List.set_cons_succ]
          refine wpAnyH_take (i := 11) (v := ?v16034) rfl (by kernel_rfl) (by kernel_rfl) (by kernel_rfl) (fun _ _ _ h => h) (Or.inl ⟨by rfl, ?hy16034⟩) (by assumption) ?rest16034
          case hy16034 => (intro wz hSw; (try dsimp only at hSw); first | (go_simp; done) | (go_simp; with_reducible rfl))
          try simp only [Act.put, List.getElem_toArray, List.getElem_cons_succ, List.getElem_cons_zero, List.setIfInBounds_toArray, List.set_cons_zero, List.set_cons_succ]
          refine wpAnyH_take (i := 12) (v := ?v16035) rfl (by kernel_rfl) (by kernel_rfl) (by kernel_rfl) (fun _ _ _ h => h) (Or.inl ⟨by rfl, ?hy16035⟩) (by assumption) ?rest16035
          case hy16035 => (intro wz hSw; (try dsimp only at hSw); first | (go_simp; done) | (go_simp; with_reducible rfl))
          try simp only [Act.put, List.getElem_toArray, List.getElem_cons_succ, List.getElem_cons_zero, List.setIfInBounds_toArray, List.set_cons_zero, List.set_cons_succ]
          refine wpAnyH_take (i := 13) (v := ?v16036) rfl (by kernel_rfl) (by kernel_rfl) (by kernel_rfl) (fun _ _ _ h => h) (Or.inl ⟨by rfl, ?hy16036⟩) (by assumption) ?rest16036
          case hy16036 => (intro wz hSw; (try dsimp only at hSw); first | (go_simp; done) | (go_simp; with_reducible rfl))
          try simp only [Act.put, List.getElem_toArray, List.getElem_cons_succ, List.getElem_cons_zero, List.setIfInBounds_toArray, List.set_cons_zero, List.set_cons_succ]
          refine wpAnyH_take (i := 14) (v := ?v16037) rfl (by kernel_rfl) (by kernel_rfl) (by kernel_rfl) (fun _ _ _ h => h) (Or.inl ⟨by rfl, ?hy16037⟩) (by assumption) ?rest16037
          case hy16037 => (intro wz hSw; (try dsimp only at hSw); first | (go_simp; done) | (go_simp; with_reducible rfl))
          try simp only [Act.put, List.getElem_toArray, List.getElem_cons_succ, List.getElem_cons_zero, List.setIfInBounds_toArray, List.set_cons_zero, List.set_cons_succ]
          refine wpAnyH_take (i := 15) (v := ?v16038) rfl (by kernel_rfl) (by kernel_rfl) (by kernel_rfl) (fun _ _ _ h => h) (Or.inl ⟨by rfl, ?hy16038⟩) (by assumption) ?rest16038
          case hy16038 => (intro wz hSw; (try dsimp only at hSw); first | (go_simp; done) | (go_simp; with_reducible rfl))
          try simp only [Act.put, List.getElem_toArray, List.getElem_cons_succ, List.getElem_cons_zero, List.setIfInBounds_toArray, List.set_cons_zero, List.set_cons_succ]
          refine wpAnyH_take (i := 16) (v := ?v16039) rfl (by kernel_rfl) (by kernel_rfl) (by kernel_rfl) (fun _ _ _ h => h) (Or.inl ⟨by rfl, ?hy16039⟩) (by assumption) ?rest16039
          case hy16039 => (intro wz hSw; (try dsimp only at hSw); first | (go_simp; done) | (go_simp; with_reducible rfl))
          try simp only [Act.put, List.getElem_toArray, List.getElem_cons_succ, List.getElem_cons_zero, List.setIfInBounds_toArray, List.set_cons_zero, List.set_cons_succ]
          refine wpAnyH_take (i := 17) (v := ?v16040) rfl (by kernel_rfl) (by kernel_rfl) (by kernel_rfl) (fun _ _ _ h => h) (Or.inl ⟨by rfl, ?hy16040⟩) (by assumption) ?rest16040
          case hy16040 => (intro wz hSw; (try dsimp only at hSw); first | (go_simp; done) | (go_simp; with_reducible rfl))
          try simp only [Act.put, List.getElem_toArray, List.getElem_cons_succ, List.getElem_cons_zero, List.setIfInBounds_toArray, List.set_cons_zero, List.set_cons_succ]
          refine wpAnyH_done (by kernel_rfl) ?_ _
          clear hH1
          go_wp2
          go_roundw
          case rel => exact ⟨j + 1, by go_num, by omega, NN.out, gb_trans GR.out V1.out⟩
          case measure => simp [intOf]; omega
    · have hje : j = i := by omega
      have i1 : ¬ (j : Int) < i := by omega
      have FI := Lib.hid (show ¬ x.t ∈ tabL (L.take i) by rw [← hje]; exact NO.out)
      go_wp2
      go_ret
      exact ⟨by rw [decide_eq_false FI.out] <;> rfl, GR.out⟩
end Go.Proofs.Ytdbjeihbfooipaa
end
section
/- Control: the reference's Check: a node, the whole; no condition but that the tree lies in memory and is not large, and the tables are not many. -/
namespace Go.Proofs.Ytdbjeihbfooipaa
open Go.RowKit
set_option linter.unusedVariables false
set_option maxRecDepth 100000 in
set_option maxHeartbeats 16000000 in
theorem rcn_any (w : World) (X : KX) (H : List (ByteArray × List Fld)) (M : List Fld) (a : Option Addr) (n c : Nat) (L : List CV) (hL : C5 w a n c L) (hp : PR w X H M) (hv : ∀ x ∈ L, VM w x) (i : Nat) (hi : i < n) (hn : n ≤ 1000000) (hb : ∀ x ∈ L, x.s.n ≤ 1000000 ∧ x.u.n ≤ 1000000) :
    Calls Try.prog 76 #[.agg #[.string X.nm, .slice X.ha X.hn X.hc, .slice X.ma X.mn X.mc, .slice X.a0 X.n0 X.c0, .slice X.a1 X.n1 X.c1, .slice X.a2 X.n2 X.c2, .slice X.a3 X.n3 X.c3, .slice X.a4 X.n4 X.c4, .slice X.a5 X.n5 X.c5], .slice a n c, .int .i64 (i : Int)] w (RetV (.int .i64 (nodE H M X.n2 (tabL (L.take i)) (L.getD i cz))) w) := by
  obtain ⟨ad, rfl⟩ := hL.some (by omega)
  have RA := Lib.hid (fun (w2 : World) (g : w.grownBy w2 none) => rapp_any w2 (some ad) n c L (hL.keep0 g) i hi hn)
  have xm : L.getD i cz ∈ L := by
    rw [List.getD_eq_getElem?_getD, List.getElem?_eq_getElem (show i < L.length by rw [hL.len]; exact hi)]
    exact List.getElem_mem _
  have ncap := hL.cap
  obtain ⟨z0, z1, z2, z3, z4⟩ := hL.cells ad rfl i hi
  have XV := hv _ xm
  have XB := hb _ xm
  obtain ⟨x, hx⟩ : ∃ x, x = L.getD i cz := ⟨_, rfl⟩
  rw [← hx] at RA z0 z1 z2 z3 z4 XV XB ⊢
  have RC := Lib.hid (fun (w2 : World) (g : w.grownBy w2 none) => rcheck13_any w2 _ (cxP H M) x.N (CR.keep0 (pr_cr hp XV.c) g))
  unfold RetV at RA
  unfold RetWE at RC
  dsimp only at RC
  generalize tabL (L.take i) = ap at *
  have ND := Lib.hid (show nodE H M X.n2 ap x = if x.k = 1 then (if tblE X.n2 ap x.t = 0 then (if 0 < x.s.n ∨ 0 < x.u.n then 5 else 0) else tblE X.n2 ap x.t) else if x.k = 2 then cndE H M x.N else if x.k = 3 then tblE X.n2 ap x.t else 11 from rfl)
  have CE := Lib.hid (show cndE H M x.N = if rE (wholeT (cxP H M) x.N) = 0 then (if rW (wholeT (cxP H M) x.N) = 1 then 0 else 10) else rE (wholeT (cxP H M) x.N) from rfl)
  have TE := Lib.hid (show tblE X.n2 ap x.t = if x.t < 0 ∨ (X.n2 : Int) ≤ x.t then 8 else if x.t ∈ ap then 7 else 0 from rfl)
  generalize rE (wholeT (cxP H M) x.N) = re at *
  generalize rW (wholeT (cxP H M) x.N) = rw' at *
  generalize cndE H M x.N = ce at *
  generalize nodE H M X.n2 ap x = ne at *
  obtain ⟨te, hte⟩ : ∃ q, q = tblE X.n2 ap x.t := ⟨_, rfl⟩
  rw [← hte] at ND TE
  obtain ⟨dm, hdm⟩ : ∃ q, q = decide (x.t ∈ ap) := ⟨_, rfl⟩
  rw [← hdm] at RA
  have DM := Lib.hid hdm
  clear hL hp hv xm XV hte hx hb hdm
  obtain ⟨xk, xt, ⟨ca, cn, cc⟩, N, ⟨ta, tn, tc⟩, th, ⟨ea, en, ec⟩, el⟩ := x
  dsimp only at *
  have xb1 := XB.1
  have xb2 := XB.2
  have G1 := Lib.hid (gb_trans (gb_alloc w (.cells #[.string X.nm, .slice X.ha X.hn X.hc, .slice X.ma X.mn X.mc, .slice X.a0 X.n0 X.c0, .slice X.a1 X.n1 X.c1, .slice X.a2 X.n2 X.c2, .slice X.a3 X.n3 X.c3, .slice X.a4 X.n4 X.c4, .slice X.a5 X.n5 X.c5] 31) none) (gb_alloc _ (.cells #[.int .i64 xk, .int .i64 xt, .slice ca cn cc, .slice ta tn tc, .slice ea en ec] 67) none))
  have B1 := (IsB.new w 31 #[.string X.nm, .slice X.ha X.hn X.hc, .slice X.ma X.mn X.mc, .slice X.a0 X.n0 X.c0, .slice X.a1 X.n1 X.c1, .slice X.a2 X.n2 X.c2, .slice X.a3 X.n3 X.c3, .slice X.a4 X.n4 X.c4, .slice X.a5 X.n5 X.c5]).alloc (.cells #[.int .i64 xk, .int .i64 xt, .slice ca cn cc, .slice ta tn tc, .slice ea en ec] 67)
  have B2 := IsB.new (w.alloc (.cells #[.string X.nm, .slice X.ha X.hn X.hc, .slice X.ma X.mn X.mc, .slice X.a0 X.n0 X.c0, .slice X.a1 X.n1 X.c1, .slice X.a2 X.n2 X.c2, .slice X.a3 X.n3 X.c3, .slice X.a4 X.n4 X.c4, .slice X.a5 X.n5 X.c5] 31)) 67 #[.int .i64 xk, .int .i64 xt, .slice ca cn cc, .slice ta tn tc, .slice ea en ec]
  rw [sz_al] at B2
  replace B1 := Lib.hid B1
  replace B2 := Lib.hid B2
  have q0 := (gb_alloc w (.cells #[.string X.nm, .slice X.ha X.hn X.hc, .slice X.ma X.mn X.mc, .slice X.a0 X.n0 X.c0, .slice X.a1 X.n1 X.c1, .slice X.a2 X.n2 X.c2, .slice X.a3 X.n3 X.c3, .slice X.a4 X.n4 X.c4, .slice X.a5 X.n5 X.c5] 31) none).cell z0 (by simp)
  have q1 := (gb_alloc w (.cells #[.string X.nm, .slice X.ha X.hn X.hc, .slice X.ma X.mn X.mc, .slice X.a0 X.n0 X.c0, .slice X.a1 X.n1 X.c1, .slice X.a2 X.n2 X.c2, .slice X.a3 X.n3 X.c3, .slice X.a4 X.n4 X.c4, .slice X.a5 X.n5 X.c5] 31) none).cell z1 (by simp)
  have q2 := (gb_alloc w (.cells #[.string X.nm, .slice X.ha X.hn X.hc, .slice X.ma X.mn X.mc, .slice X.a0 X.n0 X.c0, .slice X.a1 X.n1 X.c1, .slice X.a2 X.n2 X.c2, .slice X.a3 X.n3 X.c3, .slice X.a4 X.n4 X.c4, .slice X.a5 X.n5 X.c5] 31) none).cell z2 (by simp)
  have q3 := (gb_alloc w (.cells #[.string X.nm, .slice X.ha X.hn X.hc, .slice X.ma X.mn X.mc, .slice X.a0 X.n0 X.c0, .slice X.a1 X.n1 X.c1, .slice X.a2 X.n2 X.c2, .slice X.a3 X.n3 X.c3, .slice X.a4 X.n4 X.c4, .slice X.a5 X.n5 X.c5] 31) none).cell z3 (by simp)
  have q4 := (gb_alloc w (.cells #[.string X.nm, .slice X.ha X.hn X.hc, .slice X.ma X.mn X.mc, .slice X.a0 X.n0 X.c0, .slice X.a1 X.n1 X.c1, .slice X.a2 X.n2 X.c2, .slice X.a3 X.n3 X.c3, .slice X.a4 X.n4 X.c4, .slice X.a5 X.n5 X.c5] 31) none).cell z4 (by simp)
  have hin : (i : Int) < n := by omega
  have hi0 : (0 : Int) ≤ (i : Int) := by omega
  clear z0 z1 z2 z3 z4
  go_enter Try.func76, Try.ntmps76
  go_upto_region 2 with fail
  generalize (w.alloc (.cells #[.string X.nm, .slice X.ha X.hn X.hc, .slice X.ma X.mn X.mc, .slice X.a0 X.n0 X.c0, .slice X.a1 X.n1 X.c1, .slice X.a2 X.n2 X.c2, .slice X.a3 X.n3 X.c3, .slice X.a4 X.n4 X.c4, .slice X.a5 X.n5 X.c5] 31)).alloc (.cells #[.int .i64 xk, .int .i64 xt, .slice ca cn cc, .slice ta tn tc, .slice ea en ec] 67) = w1 at *
  obtain ⟨b, hb⟩ : ∃ b, b = w.heap.size := ⟨_, rfl⟩
  rw [← hb] at B1 B2 ⊢
  clear hb q0 q1 q2 q3 q4
  have x0 := B2.out.cell 0
  have x1 := B2.out.cell 1
  have x2 := B2.out.cell 2
  have x3 := B2.out.cell 3
  have x4 := B2.out.cell 4
  have p0 := B1.out.cell 0
  have p1 := B1.out.cell 1
  have p2 := B1.out.cell 2
  have p3 := B1.out.cell 3
  have p4 := B1.out.cell 4
  have p5 := B1.out.cell 5
  have p6 := B1.out.cell 6
  have p7 := B1.out.cell 7
  have p8 := B1.out.cell 8
  dsimp at x0 x1 x2 x3 x4 p0 p1 p2 p3 p4 p5 p6 p7 p8
  by_cases hlo : xk < 1
  · have FE := Lib.hid (show ne = 11 by rw [ND.out, if_neg (by omega), if_neg (by omega), if_neg (by omega)])
    go_wp2
    go_ret
    exact ⟨by rw [FE.out] <;> rfl, G1.out⟩
  by_cases hhi : 3 < xk
  · have FE := Lib.hid (show ne = 11 by rw [ND.out, if_neg (by omega), if_neg (by omega), if_neg (by omega)])
    go_wp2
    go_ret
    exact ⟨by rw [FE.out] <;> rfl, G1.out⟩
  rcases (show xk = 1 ∨ xk = 2 ∨ xk = 3 by omega) with hk | hk | hk
  · subst hk
    rw [if_pos rfl] at ND
    by_cases h0 : xt < 0
    · have FE := Lib.hid ((show ne = 8 by rw [ND.out, show te = 8 from (by rw [TE.out, if_pos (by omega)])]; rfl))
      go_wp2
      go_ret
      exact ⟨by rw [FE.out] <;> rfl, G1.out⟩
    by_cases h1 : (X.n2 : Int) ≤ xt
    · have FE := Lib.hid ((show ne = 8 by rw [ND.out, show te = 8 from (by rw [TE.out, if_pos (by omega)])]; rfl))
      go_wp2
      go_ret
      exact ⟨by rw [FE.out] <;> rfl, G1.out⟩
    cases dm with
    | true =>
      have FE := Lib.hid ((show ne = 7 by rw [ND.out, show te = 7 from (by rw [TE.out, if_neg (by omega), if_pos (by have := DM.out; simpa using this.symm)])]; rfl))
      go_wp2_with (go_at_call 106; refine (RA.out _ G1.out).mono ?_; clear RA; rintro e w5 ⟨rfl, g5⟩; have G5 := Lib.hid (gb_trans G1.out g5); have B5 := Lib.hid (B2.out.keep0 g5); clear g5 x0 x1 x2 x3 x4 p0 p1 p2 p3 p4 p5 p6 p7 p8; have x0 := B5.out.cell 0; have x3 := B5.out.cell 3; have x4 := B5.out.cell 4; dsimp at x0 x3 x4)
      go_ret
      exact ⟨by rw [FE.out] <;> rfl, G5.out⟩
    | false =>
      have T0 := Lib.hid (show te = 0 by rw [TE.out, if_neg (by omega), if_neg (by have := DM.out; simpa using this.symm)])
      have hwr : wrap64 ((tn : Int) + (en : Int)) = (tn : Int) + (en : Int) := by rw [IntWalk.wrap64_in _ (by omega)]
      by_cases hs : 0 < tn ∨ 0 < en
      · have FE := Lib.hid (show ne = 5 by rw [ND.out, if_pos T0.out, if_pos hs])
        have hs2 : (0 : Int) < (tn : Int) + (en : Int) := by omega
        clear hs
        go_wp2_with (go_at_call 106; refine (RA.out _ G1.out).mono ?_; clear RA; rintro e w5 ⟨rfl, g5⟩; have G5 := Lib.hid (gb_trans G1.out g5); have B5 := Lib.hid (B2.out.keep0 g5); clear g5 x0 x1 x2 x3 x4 p0 p1 p2 p3 p4 p5 p6 p7 p8; have x0 := B5.out.cell 0; have x3 := B5.out.cell 3; have x4 := B5.out.cell 4; dsimp at x0 x3 x4)
        go_ret
        exact ⟨by rw [FE.out] <;> rfl, G5.out⟩
      · have FE := Lib.hid (show ne = 0 by rw [ND.out, if_pos T0.out, if_neg hs])
        have hs2 : ¬ (0 : Int) < (tn : Int) + (en : Int) := by omega
        clear hs
        go_wp2_with (go_at_call 106; refine (RA.out _ G1.out).mono ?_; clear RA; rintro e w5 ⟨rfl, g5⟩; have G5 := Lib.hid (gb_trans G1.out g5); have B5 := Lib.hid (B2.out.keep0 g5); clear g5 x0 x1 x2 x3 x4 p0 p1 p2 p3 p4 p5 p6 p7 p8; have x0 := B5.out.cell 0; have x3 := B5.out.cell 3; have x4 := B5.out.cell 4; dsimp at x0 x3 x4)
        go_ret
        exact ⟨by rw [FE.out] <;> rfl, G5.out⟩
  · subst hk
    rw [if_neg (by decide), if_pos rfl] at ND
    by_cases e0 : re = 0
    · subst e0
      rw [if_pos rfl] at CE
      by_cases e1 : rw' = 1
      · subst e1
        rw [if_pos rfl] at CE
        go_wp2_with (go_at_call 105; refine (RC.out _ G1.out).mono ?_; clear RC; rintro e w5 ⟨rfl, g5⟩; have G5 := Lib.hid (gb_trans G1.out g5); clear g5 x0 x1 x2 x3 x4 p0 p1 p2 p3 p4 p5 p6 p7 p8)
        go_ret
        exact ⟨by rw [ND.out, CE.out] <;> rfl, G5.out⟩
      · rw [if_neg e1] at CE
        have d1 : (rw' != 1) = true := by rw [bne_iff_ne]; exact e1
        have d2 : (rw' == 1) = false := by rw [beq_eq_false_iff_ne]; exact e1
        go_wp2_with (go_at_call 105; refine (RC.out _ G1.out).mono ?_; clear RC; rintro e w5 ⟨rfl, g5⟩; have G5 := Lib.hid (gb_trans G1.out g5); clear g5 x0 x1 x2 x3 x4 p0 p1 p2 p3 p4 p5 p6 p7 p8)
        go_ret
        exact ⟨by rw [ND.out, CE.out] <;> rfl, G5.out⟩
    · rw [if_neg e0] at CE
      have d1 : (re == 0) = false := by rw [beq_eq_false_iff_ne]; exact e0
      have d2 : decide (re = 0) = false := decide_eq_false e0
      go_wp2_with (go_at_call 105; refine (RC.out _ G1.out).mono ?_; clear RC; rintro e w5 ⟨rfl, g5⟩; have G5 := Lib.hid (gb_trans G1.out g5); clear g5 x0 x1 x2 x3 x4 p0 p1 p2 p3 p4 p5 p6 p7 p8)
      go_ret
      exact ⟨by rw [ND.out, CE.out] <;> rfl, G5.out⟩
  · subst hk
    rw [if_neg (by decide), if_neg (by decide), if_pos rfl] at ND
    by_cases h0 : xt < 0
    · have FE := Lib.hid (ND.out.trans (show te = 8 by rw [TE.out, if_pos (by omega)]))
      go_wp2
      go_ret
      exact ⟨by rw [FE.out] <;> rfl, G1.out⟩
    by_cases h1 : (X.n2 : Int) ≤ xt
    · have FE := Lib.hid (ND.out.trans (show te = 8 by rw [TE.out, if_pos (by omega)]))
      go_wp2
      go_ret
      exact ⟨by rw [FE.out] <;> rfl, G1.out⟩
    cases dm with
    | true =>
      have FE := Lib.hid (ND.out.trans (show te = 7 by rw [TE.out, if_neg (by omega), if_pos (by have := DM.out; simpa using this.symm)]))
      go_wp2_with (go_at_call 106; refine (RA.out _ G1.out).mono ?_; clear RA; rintro e w5 ⟨rfl, g5⟩; have G5 := Lib.hid (gb_trans G1.out g5); have B5 := Lib.hid (B2.out.keep0 g5); clear g5 x0 x1 x2 x3 x4 p0 p1 p2 p3 p4 p5 p6 p7 p8; have x0 := B5.out.cell 0; have x3 := B5.out.cell 3; have x4 := B5.out.cell 4; dsimp at x0 x3 x4)
      go_ret
      exact ⟨by rw [FE.out] <;> rfl, G5.out⟩
    | false =>
      have FE := Lib.hid (ND.out.trans (show te = 0 by rw [TE.out, if_neg (by omega), if_neg (by have := DM.out; simpa using this.symm)]))
      go_wp2_with (go_at_call 106; refine (RA.out _ G1.out).mono ?_; clear RA; rintro e w5 ⟨rfl, g5⟩; have G5 := Lib.hid (gb_trans G1.out g5); have B5 := Lib.hid (B2.out.keep0 g5); clear g5 x0 x1 x2 x3 x4 p0 p1 p2 p3 p4 p5 p6 p7 p8; have x0 := B5.out.cell 0; have x3 := B5.out.cell 3; have x4 := B5.out.cell 4; dsimp at x0 x3 x4)
      go_ret
      exact ⟨by rw [FE.out] <;> rfl, G5.out⟩
end Go.Proofs.Ytdbjeihbfooipaa
end
section
/- Control: the reference's Check: the whole; no condition but that the tree lies in memory and is not large. -/
namespace Go.Proofs.Ytdbjeihbfooipaa
open Go.RowKit
set_option linter.unusedVariables false
theorem chkL_drop (H : List (ByteArray × List Fld)) (M : List Fld) (tn : Nat) (L : List CV) (j : Nat) (h : j < L.length) :
    chkL H M tn (L.drop j) (tabL (L.take j)) j = if nodE H M tn (tabL (L.take j)) (L.getD j cz) = 0 then chkL H M tn (L.drop (j + 1)) (tabL (L.take (j + 1))) (j + 1) else ((j : Int), nodE H M tn (tabL (L.take j)) (L.getD j cz)) := by
  have e : L.drop j = L.getD j cz :: L.drop (j + 1) := by
    rw [List.drop_eq_getElem_cons h, List.getD_eq_getElem?_getD, List.getElem?_eq_getElem h]; rfl
  rw [e, take_pre L j h, ← tabL_step]
  rfl
set_option maxRecDepth 100000 in
set_option maxHeartbeats 16000000 in
theorem rchk20_any (w : World) (X : KX) (H : List (ByteArray × List Fld)) (M : List Fld) (T : CT) (hS : ST w ⟨X.a4, X.n4, X.c4⟩ T) (hp : PR w X H M) (hc : T.cnt ≤ 1000000) :
    Calls Try.prog 29 #[.agg #[.string X.nm, .slice X.ha X.hn X.hc, .slice X.ma X.mn X.mc, .slice X.a0 X.n0 X.c0, .slice X.a1 X.n1 X.c1, .slice X.a2 X.n2 X.c2, .slice X.a3 X.n3 X.c3, .slice X.a4 X.n4 X.c4, .slice X.a5 X.n5 X.c5]] w (RetCk (chkC H M X.n2 T) w) := by
  have CO := Lib.hid (fun (w2 : World) (g : w.grownBy w2 none) => rcount_any w2 ⟨X.a4, X.n4, X.c4⟩ T (hS.keep0 g) hc)
  have NE := Lib.hid (fun (w2 : World) (g : w.grownBy w2 none) => rnest_any w2 ⟨X.a4, X.n4, X.c4⟩ T (hS.keep0 g) hc)
  have PE := Lib.hid (fun (w2 : World) (g : w.grownBy w2 none) => rpre_any w2 ⟨X.a4, X.n4, X.c4⟩ T (hS.keep0 g) hc)
  have CE := Lib.hid (show chkC H M X.n2 T = if 24 < T.cnt then (-1, 12) else if 6 < T.nest then (-1, 14) else chkL H M X.n2 T.pre [] 0 from rfl)
  have PC := Lib.hid (show T.pre.length ≤ 1000000 from hc)
  have ND := Lib.hid (fun (w2 : World) (g : w.grownBy w2 none) (a : Option Addr) (n c : Nat) (hL : C5 w2 a n c T.pre) (i : Nat) (hi : i < n) (hn : n ≤ 1000000) =>
    rcn_any w2 X H M a n c T.pre hL (hp.keep0 g) (fun x hx => (hS.keep0 g).vm x hx) i hi hn (fun x hx => by
      have q := hS.vm x hx
      have p := pre_mem T x hx
      have l1 := q.s.len
      have l2 := q.u.len
      have m1 := CT.len_cnt x.th
      have m2 := CT.len_cnt x.el
      exact ⟨by omega, by omega⟩))
  unfold RetV at CO NE ND
  unfold RetCN at PE
  dsimp only at CO NE PE
  obtain ⟨kn, hkn⟩ : ∃ k, k = T.cnt := ⟨_, rfl⟩
  obtain ⟨nn, hnn⟩ : ∃ k, k = T.nest := ⟨_, rfl⟩
  rw [← hkn] at CO CE
  rw [← hnn] at NE CE
  have nb2 : nn ≤ 1000000 := by have := CT.nest_cnt T; omega
  have cb : kn ≤ 1000000 := by omega
  generalize chkC H M X.n2 T = rr at *
  clear hkn hnn hc hS hp
  generalize T.pre = L at *
  have G1 := Lib.hid (gb_alloc w (.cells #[.string X.nm, .slice X.ha X.hn X.hc, .slice X.ma X.mn X.mc, .slice X.a0 X.n0 X.c0, .slice X.a1 X.n1 X.c1, .slice X.a2 X.n2 X.c2, .slice X.a3 X.n3 X.c3, .slice X.a4 X.n4 X.c4, .slice X.a5 X.n5 X.c5] 31) none)
  have B1 := Lib.hid (IsB.new w 31 #[.string X.nm, .slice X.ha X.hn X.hc, .slice X.ma X.mn X.mc, .slice X.a0 X.n0 X.c0, .slice X.a1 X.n1 X.c1, .slice X.a2 X.n2 X.c2, .slice X.a3 X.n3 X.c3, .slice X.a4 X.n4 X.c4, .slice X.a5 X.n5 X.c5])
  go_enter Try.func29, Try.ntmps29
  go_upto_region 2 with fail
  generalize w.alloc (.cells #[.string X.nm, .slice X.ha X.hn X.hc, .slice X.ma X.mn X.mc, .slice X.a0 X.n0 X.c0, .slice X.a1 X.n1 X.c1, .slice X.a2 X.n2 X.c2, .slice X.a3 X.n3 X.c3, .slice X.a4 X.n4 X.c4, .slice X.a5 X.n5 X.c5] 31) = w1 at *
  obtain ⟨b, hb⟩ : ∃ b, b = w.heap.size := ⟨_, rfl⟩
  rw [← hb] at B1 ⊢
  clear hb
  have k7 := B1.out.cell 7
  dsimp at k7
  by_cases hm : 24 < kn
  · have FE := Lib.hid (show rr = (-1, 12) by rw [CE.out, if_pos hm])
    have d1 : (24 : Int) < kn := by omega
    go_wp2_with (go_at_call 33; refine (CO.out _ G1.out).mono ?_; clear CO; rintro e w5 ⟨rfl, g5⟩; have G5 := Lib.hid (gb_trans G1.out g5); clear g5 k7)
    go_ret2
    exact ⟨by rw [FE.out] <;> rfl, G5.out⟩
  rw [if_neg hm] at CE
  have d1 : ¬ (24 : Int) < kn := by omega
  by_cases hn : 6 < nn
  · have FE := Lib.hid (show rr = (-1, 14) by rw [CE.out, if_pos hn])
    have d2 : (6 : Int) < nn := by omega
    go_wp2_with (first | (go_at_call 33; refine (CO.out _ G1.out).mono ?_; clear CO; rintro e w5 ⟨rfl, g5⟩; have G5 := Lib.hid (gb_trans G1.out g5); have B5 := Lib.hid (B1.out.keep0 g5); clear g5 k7; have k7 := B5.out.cell 7; dsimp at k7) | (go_at_call 35; refine (NE.out _ G5.out).mono ?_; clear NE; rintro e w6 ⟨rfl, g6⟩; have G6 := Lib.hid (gb_trans G5.out g6); clear g6 k7))
    go_ret2
    exact ⟨by rw [FE.out] <;> rfl, G6.out⟩
  rw [if_neg hn] at CE
  have d2 : ¬ (6 : Int) < nn := by omega
  go_upto_region 6 with (first | (go_at_call 33; refine (CO.out _ G1.out).mono ?_; clear CO; rintro e w5 ⟨rfl, g5⟩; have G5 := Lib.hid (gb_trans G1.out g5); have B5 := Lib.hid (B1.out.keep0 g5); clear g5 k7; have k7 := B5.out.cell 7; dsimp at k7) | (go_at_call 35; refine (NE.out _ G5.out).mono ?_; clear NE; rintro e w6 ⟨rfl, g6⟩; have G6 := Lib.hid (gb_trans G5.out g6); have B6 := Lib.hid (B5.out.keep0 g6); clear g6 k7; have k7 := B6.out.cell 7; dsimp at k7) | (go_at_call 75; refine (PE.out _ G6.out).mono ?_; clear PE; rintro e w7 ⟨la, lc, rfl, lo, g7⟩; have LO := Lib.hid (lo.c5 rfl); have G7 := Lib.hid (gb_trans G6.out g7); have B7 := Lib.hid (B6.out.keep0 g7); have lcap := (lo.c5 rfl).cap; clear lo g7 k7))
  obtain ⟨n, hn⟩ : ∃ n, n = L.length := ⟨_, rfl⟩
  rw [← hn] at LO lcap PC ⊢
  have LN := Lib.hid hn.symm
  clear hn
  have nb : n ≤ 1000000 := PC.out
  have CI := Lib.hid (show chkL H M X.n2 L [] 0 = chkL H M X.n2 (L.drop 0) (tabL (L.take 0)) 0 from rfl)
  have DR := Lib.hid (fun j h => chkL_drop H M X.n2 L j h)
  go_wp2
  go_loopw [5] (fun s5 wr => ∃ (j : Nat), s5 = .int .i64 (j : Int) ∧ j ≤ n ∧ rr = chkL H M X.n2 (L.drop j) (tabL (L.take j)) j ∧ w7.grownBy wr none) (fun s5 _ => n - (intOf s5).toNat)
  case atStart => exact ⟨0, rfl, Nat.zero_le _, CE.out.trans CI.out, gb_refl _ _⟩
  case round =>
    obtain ⟨j, rfl, hj, hcj, hgr⟩ := hrel
    have CJ := Lib.hid hcj
    have GR := Lib.hid hgr
    have GB := Lib.hid (gb_trans G7.out hgr)
    clear hcj hgr
    have BR := Lib.hid (B7.out.keep0 GR.out)
    have p0 := BR.out.cell 0
    have p1 := BR.out.cell 1
    have p2 := BR.out.cell 2
    have p3 := BR.out.cell 3
    have p4 := BR.out.cell 4
    have p5 := BR.out.cell 5
    have p6 := BR.out.cell 6
    have p7 := BR.out.cell 7
    have p8 := BR.out.cell 8
    dsimp at p0 p1 p2 p3 p4 p5 p6 p7 p8
    by_cases hlt : j < n
    · have i1 : (j : Int) < n := by omega
      have i0 : (0 : Int) ≤ (j : Int) := by omega
      have DJ := Lib.hid (CJ.out.trans (DR.out j (by rw [LN.out]; exact hlt)))
      have ER := Lib.hid (ND.out wr GB.out la n lc (LO.out.keep0 GR.out) j hlt nb)
      generalize nodE H M X.n2 (tabL (L.take j)) (L.getD j cz) = ne at *
      clear ND DR CJ
      by_cases h0 : ne = 0
      · subst h0
        rw [if_pos rfl] at DJ
        go_wp2_with (go_at_call 76; refine ER.out.mono ?_; clear ER; rintro e w8 ⟨rfl, g8⟩; have G8 := Lib.hid (gb_trans GR.out g8); clear g8 p0 p1 p2 p3 p4 p5 p6 p7 p8)
        go_roundw
        case rel => exact ⟨j + 1, by go_num, by omega, DJ.out, G8.out⟩
        case measure => simp [intOf]; omega
      · rw [if_neg h0] at DJ
        have d3 : (ne != 0) = true := by rw [bne_iff_ne]; exact h0
        have d4 : (ne == 0) = false := by rw [beq_eq_false_iff_ne]; exact h0
        go_wp2_with (go_at_call 76; refine ER.out.mono ?_; clear ER; rintro e w8 ⟨rfl, g8⟩; have G8 := Lib.hid (gb_trans GR.out g8); clear g8 p0 p1 p2 p3 p4 p5 p6 p7 p8)
        go_ret2
        exact ⟨by rw [DJ.out] <;> rfl, gb_trans G7.out G8.out⟩
    · have hje : j = n := by omega
      have i1 : ¬ (j : Int) < n := by omega
      subst hje
      have FI := Lib.hid (show rr = (0, 0) by rw [CJ.out, List.drop_of_length_le (by rw [LN.out]; omega)]; rfl)
      go_wp2
      go_ret2
      exact ⟨by rw [FI.out] <;> rfl, gb_trans G7.out GR.out⟩
end Go.Proofs.Ytdbjeihbfooipaa
end
section
/- Control: the laws' example; no condition. -/
namespace Go.Proofs.Ytdbjeihbfooipaa
open Go.RowKit
set_option linter.unusedVariables false
def nil3 : Sl := ⟨none, 0, 0⟩
def wkA : CT := .cons 1 4 nil3 [] nil3 .nil nil3 .nil .nil
def wkB : CT := .cons 3 2 nil3 [] nil3 .nil nil3 .nil (.cons 1 7 nil3 [] nil3 .nil nil3 .nil .nil)
def wkT (g : Nat) : CT := .cons 2 0 nil3 [] ⟨some ⟨g, 0, none⟩, 1, 1⟩ wkA ⟨some ⟨g + 1, 0, none⟩, 2, 2⟩ wkB .nil
theorem sn_nil0 (w : World) : SN w none 0 0 [] := ⟨rfl, fun _ => ⟨rfl, rfl⟩, Nat.le_refl _, (fun ad e => by cases e), (fun x hx => by cases hx)⟩
theorem vm_leaf (w : World) (k t : Int) : VM w ⟨k, t, nil3, [], nil3, .nil, nil3, .nil⟩ := ⟨sn_nil0 w, ST.nilv w, ST.nilv w⟩
theorem wk_st (w : World) (g : Nat) (b0 : IsB w g 67 #[.int .i64 1, .int .i64 4, .slice none 0 0, .slice none 0 0, .slice none 0 0]) (b1 : IsB w (g + 1) 67 #[.int .i64 3, .int .i64 2, .slice none 0 0, .slice none 0 0, .slice none 0 0, .int .i64 1, .int .i64 7, .slice none 0 0, .slice none 0 0, .slice none 0 0])
    (b2 : IsB w (g + 1 + 1) 67 #[.int .i64 2, .int .i64 0, .slice none 0 0, .slice (some ⟨g, 0, none⟩) 1 1, .slice (some ⟨g + 1, 0, none⟩) 2 2]) : ST w ⟨some ⟨g + 1 + 1, 0, none⟩, 1, 1⟩ (wkT g) := by
  have sA : ST w ⟨some ⟨g, 0, none⟩, 1, 1⟩ wkA := by
    refine ⟨rfl, (fun e => by cases e), Nat.le_refl _, fun ad e => ?_⟩
    cases e
    refine ctm_mk (x := ⟨1, 4, nil3, [], nil3, .nil, nil3, .nil⟩) ?_ (vm_leaf w 1 4) trivial
    rw [addr0c]
    exact ⟨b0.cell 0, b0.cell 1, b0.cell 2, b0.cell 3, b0.cell 4⟩
  have sB : ST w ⟨some ⟨g + 1, 0, none⟩, 2, 2⟩ wkB := by
    refine ⟨rfl, (fun e => by cases e), Nat.le_refl _, fun ad e => ?_⟩
    cases e
    refine ctm_mk (x := ⟨3, 2, nil3, [], nil3, .nil, nil3, .nil⟩) ?_ (vm_leaf w 3 2) (ctm_mk (x := ⟨1, 7, nil3, [], nil3, .nil, nil3, .nil⟩) ?_ (vm_leaf w 1 7) trivial)
    · rw [addr0c]
      exact ⟨b1.cell 0, b1.cell 1, b1.cell 2, b1.cell 3, b1.cell 4⟩
    · rw [addr0c]
      exact ⟨b1.cell 5, b1.cell 6, b1.cell 7, b1.cell 8, b1.cell 9⟩
  refine ⟨rfl, (fun e => by cases e), Nat.le_refl _, fun ad e => ?_⟩
  cases e
  refine ctm_mk (x := ⟨2, 0, nil3, [], ⟨some ⟨g, 0, none⟩, 1, 1⟩, wkA, ⟨some ⟨g + 1, 0, none⟩, 2, 2⟩, wkB⟩) ?_ ⟨sn_nil0 w, sA, sB⟩ trivial
  rw [addr0c]
  exact ⟨b2.cell 0, b2.cell 1, b2.cell 2, b2.cell 3, b2.cell 4⟩
theorem nl_sz2 {w : World} {base n c : Nat} {a : Option Addr} {L : List Int} (h : NL w base (.slice a n c) L) (hl : n = L.length) : SZ w a n c L := by
  subst hl
  have cp := own_cap h
  have s := h.slr rfl
  exact ⟨rfl, fun e => s.2.1 e, cp, fun ad e j hj => s.2.2 ad e j (.int .i64 (L.getD j 0)) (by simp [hj])⟩
theorem wk_ints (w : World) (t : TypeId) : SZ (w.alloc (.cells #[.int .i64 4, .int .i64 2, .int .i64 7] t)) (some ⟨w.heap.size, 0, none⟩) 3 3 [4, 2, 7] := by
  refine ⟨rfl, (fun e => by cases e), Nat.le_refl _, fun ad e j hj => ?_⟩
  cases e
  rw [addr0c, (IsB.new w t _).cell j]
  rcases (show j = 0 ∨ j = 1 ∨ j = 2 by omega) with rfl | rfl | rfl <;> rfl
/-- A program of which the control flow alone is there. -/
def kxC (s : Sl) : KX := ⟨none, 0, 0, ⟨#[]⟩, none, 0, 0, none, 0, 0, none, 0, 0, none, 0, 0, none, 0, 0, none, 0, 0, s.a, s.n, s.c, none, 0, 0, none, 0, 0, none, 0, 0, none, 0, 0, none, 0, 0, none, 0, 0, none, 0, 0⟩
theorem kxC_pr (w : World) (s : Sl) : PR w (kxC s) [] [] := ⟨⟨rfl, fun _ => ⟨rfl, rfl⟩, Nat.le_refl _, fun ad e => by cases e⟩, sf_nil _⟩
theorem wk_chk (g : Nat) : (chkC [] [] 0 (wkT g)) = (0, 3) := rfl
theorem wk_cnt (g : Nat) : (wkT g).cnt = 4 := rfl
theorem wk_nest (g : Nat) : (wkT g).nest = 2 := rfl
theorem wk_tab (g : Nat) : tabL (wkT g).pre = [4, 2, 7] := rfl
theorem wk_node (g : Nat) : nodA (wkT g).pre 3 = some ⟨1, 7, nil3, [], nil3, .nil, nil3, .nil⟩ := rfl
theorem wk_cnd (g : Nat) : Cnd (wkT g) := by
  intro x hx
  have e : (wkT g).pre = [⟨2, 0, nil3, [], ⟨some ⟨g, 0, none⟩, 1, 1⟩, wkA, ⟨some ⟨g + 1, 0, none⟩, 2, 2⟩, wkB⟩, ⟨1, 4, nil3, [], nil3, .nil, nil3, .nil⟩, ⟨3, 2, nil3, [], nil3, .nil, nil3, .nil⟩, ⟨1, 7, nil3, [], nil3, .nil, nil3, .nil⟩] := rfl
  rw [e] at hx
  simp only [List.mem_cons, List.not_mem_nil, or_false] at hx
  rcases hx with rfl | rfl | rfl | rfl <;> exact Nat.zero_le _
set_option maxRecDepth 100000 in
set_option maxHeartbeats 16000000 in
theorem works20_any (w : World) : Calls Try.prog 27 #[] w (RetV (.bool true) w) := by
  obtain ⟨w3, hw3⟩ : ∃ w3, w3 = ((w.alloc (.cells #[.int .i64 1, .int .i64 4, .slice none 0 0, .slice none 0 0, .slice none 0 0] 67)).alloc (.cells #[.int .i64 3, .int .i64 2, .slice none 0 0, .slice none 0 0, .slice none 0 0, .int .i64 1, .int .i64 7, .slice none 0 0, .slice none 0 0, .slice none 0 0] 67)).alloc (.cells #[.int .i64 2, .int .i64 0, .slice none 0 0, .slice (some ⟨w.heap.size, 0, none⟩) 1 1, .slice (some ⟨w.heap.size + 1, 0, none⟩) 2 2] 67) := ⟨_, rfl⟩
  have b0 := ((IsB.new w 67 #[.int .i64 1, .int .i64 4, .slice none 0 0, .slice none 0 0, .slice none 0 0]).alloc (.cells #[.int .i64 3, .int .i64 2, .slice none 0 0, .slice none 0 0, .slice none 0 0, .int .i64 1, .int .i64 7, .slice none 0 0, .slice none 0 0, .slice none 0 0] 67)).alloc (.cells #[.int .i64 2, .int .i64 0, .slice none 0 0, .slice (some ⟨w.heap.size, 0, none⟩) 1 1, .slice (some ⟨w.heap.size + 1, 0, none⟩) 2 2] 67)
  have b1 := (IsB.new (w.alloc (.cells #[.int .i64 1, .int .i64 4, .slice none 0 0, .slice none 0 0, .slice none 0 0] 67)) 67 #[.int .i64 3, .int .i64 2, .slice none 0 0, .slice none 0 0, .slice none 0 0, .int .i64 1, .int .i64 7, .slice none 0 0, .slice none 0 0, .slice none 0 0]).alloc (.cells #[.int .i64 2, .int .i64 0, .slice none 0 0, .slice (some ⟨w.heap.size, 0, none⟩) 1 1, .slice (some ⟨w.heap.size + 1, 0, none⟩) 2 2] 67)
  have b2 := IsB.new ((w.alloc (.cells #[.int .i64 1, .int .i64 4, .slice none 0 0, .slice none 0 0, .slice none 0 0] 67)).alloc (.cells #[.int .i64 3, .int .i64 2, .slice none 0 0, .slice none 0 0, .slice none 0 0, .int .i64 1, .int .i64 7, .slice none 0 0, .slice none 0 0, .slice none 0 0] 67)) 67 #[.int .i64 2, .int .i64 0, .slice none 0 0, .slice (some ⟨w.heap.size, 0, none⟩) 1 1, .slice (some ⟨w.heap.size + 1, 0, none⟩) 2 2]
  rw [sz_al] at b1
  rw [sz_al, sz_al] at b2
  have ST3 := Lib.hid (show ST w3 ⟨some ⟨w.heap.size + 1 + 1, 0, none⟩, 1, 1⟩ (wkT w.heap.size) by rw [hw3]; exact wk_st _ _ b0 b1 b2)
  have G3 := Lib.hid (show w.grownBy w3 none by rw [hw3]; exact gb_al (gb_al (gb_al (gb_refl _ _))))
  have W3 := Lib.hid hw3
  clear hw3 b0 b1 b2
  go_enter Try.func27, Try.ntmps27
  go_upto_region 2 with fail
  rw [← W3.out]
  clear W3
  obtain ⟨g, hg⟩ : ∃ g, g = w.heap.size := ⟨_, rfl⟩
  rw [← hg] at ST3 ⊢
  clear hg
  have KN := Lib.hid (fun (w2 : World) (q : w3.grownBy w2 none) => knode_any w2 ⟨some ⟨g + 1 + 1, 0, none⟩, 1, 1⟩ (wkT g) (ST3.out.keep0 q) (by rw [wk_cnt]; decide) (wk_cnd g) 3)
  have KK := Lib.hid (fun (w2 : World) (q : w3.grownBy w2 none) => kchk_any w2 (kxC ⟨some ⟨g + 1 + 1, 0, none⟩, 1, 1⟩) [] [] (wkT g) (ST3.out.keep0 q) (kxC_pr _ _) (by rw [wk_cnt]; decide) (Nat.zero_le _))
  have KC := Lib.hid (fun (w2 : World) (q : w3.grownBy w2 none) => count_any w2 ⟨some ⟨g + 1 + 1, 0, none⟩, 1, 1⟩ (wkT g) (ST3.out.keep0 q) (by rw [wk_cnt]; decide))
  have KE := Lib.hid (fun (w2 : World) (q : w3.grownBy w2 none) => knest_any w2 ⟨some ⟨g + 1 + 1, 0, none⟩, 1, 1⟩ (wkT g) (ST3.out.keep0 q) (by rw [wk_cnt]; decide))
  have KT := Lib.hid (fun (w2 : World) (q : w3.grownBy w2 none) => ktables_any w2 ⟨some ⟨g + 1 + 1, 0, none⟩, 1, 1⟩ (wkT g) (ST3.out.keep0 q) (by rw [wk_cnt]; decide))
  unfold RetKN at KN
  unfold RetCk at KK
  unfold RetV at KC KE
  unfold RetNL at KT
  rw [wk_node] at KN
  rw [wk_cnt] at KC
  rw [wk_nest] at KE
  rw [wk_tab] at KT
  rw [show chkC [] [] (kxC ⟨some ⟨g + 1 + 1, 0, none⟩, 1, 1⟩).n2 (wkT g) = (0, 3) from rfl] at KK
  dsimp only [kxC, Option.getD_some, Option.isSome_some] at KN KK KC KE KT
  generalize wkT g = TT at *
  go_upto_region 3 with (go_at_call 30; refine (KN.out _ (gb_refl _ _)).mono ?_; clear KN; rintro e w4 ⟨y, rfl, eqn, vm, g4⟩; obtain ⟨yk, yt, ⟨ca, cn, cc⟩, N, ⟨ta, tn, tc⟩, th, ⟨ea, en, ec⟩, el⟩ := y; have h7 := eqn.t; dsimp only at h7; subst h7; have G4 := Lib.hid g4; clear eqn vm g4; dsimp only [CV.cs, Sl.v])
  have B5 := Lib.hid (IsB.new w4 67 #[.int .i64 yk, .int .i64 7, .slice ca cn cc, .slice ta tn tc, .slice ea en ec])
  have G5 := Lib.hid (gb_trans G4.out (gb_alloc w4 (.cells #[.int .i64 yk, .int .i64 7, .slice ca cn cc, .slice ta tn tc, .slice ea en ec] 67) none))
  generalize w4.alloc (.cells #[.int .i64 yk, .int .i64 7, .slice ca cn cc, .slice ta tn tc, .slice ea en ec] 67) = w5 at *
  generalize w4.heap.size = b5 at *
  go_upto_region 4 with (go_at_call 28; refine (KK.out _ G5.out).mono ?_; clear KK; rintro e w6 ⟨rfl, g6⟩; have G6 := Lib.hid (gb_trans G5.out g6); have B6 := Lib.hid (B5.out.keep0 g6); clear g6)
  go_wp2_with (first
    | (go_at_call 32; refine (KC.out _ G6.out).mono ?_; clear KC; rintro e w7 ⟨rfl, g7⟩; have G7 := Lib.hid (gb_trans G6.out g7); have B7 := Lib.hid (B6.out.keep0 g7); clear g7)
    | (go_at_call 34; refine (KE.out _ G7.out).mono ?_; clear KE; rintro e w8 ⟨rfl, g8⟩; have G8 := Lib.hid (gb_trans G7.out g8); have B8 := Lib.hid (B7.out.keep0 g8); clear g8; have b81 := B8.out.cell 1; dsimp at b81)
    | (go_at_call 37; refine (KT.out _ G8.out).mono ?_; clear KT b81; rintro e w9 ⟨a9, c9, rfl, n9, g9⟩; have G9 := Lib.hid (gb_trans G8.out g9); have Z9 := Lib.hid ((nl_sz2 n9 rfl).keep0 (gb_alloc w9 (.cells #[.int .i64 4, .int .i64 2, .int .i64 7] 3) none)); have Y9 := Lib.hid (wk_ints w9 3); clear n9 g9)
    | (go_at_call 36; refine (eqi_any _ _ _ _ _ _ _ [4, 2, 7] [4, 2, 7] Z9.out Y9.out (by decide) (by decide)).mono ?_; rintro e w10 ⟨rfl, g10⟩; have G10 := Lib.hid (gb_trans (gb_trans G9.out (gb_alloc w9 (.cells #[.int .i64 4, .int .i64 2, .int .i64 7] 3) none)) g10); clear g10; rw [decide_eq_true rfl]))
  go_ret
  exact ⟨rfl, gb_trans G3.out G10.out⟩
end Go.Proofs.Ytdbjeihbfooipaa
end
section
/- Control: how a control flow as an argument is opened; no condition. -/
namespace Go.Proofs.Ytdbjeihbfooipaa
open Go.ChangeShapes Go.WideShapes Go.ChangeAt Go.RowKit Go.Joins Go.Deep
set_option linter.unusedVariables false
section
variable {H : Type} {enc : TypeId × Value → H} {w : World}
instance : Inhabited CV := ⟨cz⟩
set_option maxRecDepth 100000 in
theorem open_ct : ∀ (m n : Nat) (v : Value) (x : DataW H × List MemPlace), n < m → DataW.trod enc Try.prog w 0 (fun _ => true) true n 28 [v] = some x → ∃ (s : Sl) (T : CT), v = .slice s.a s.n s.c ∧ ST w s T := by
  intro m
  induction m with
  | zero => intro n v x h; omega
  | succ m ih =>
    intro n v x hm h
    rcases DataW.trod_slice Try.underlying28 h with ⟨hcs, _⟩ | ⟨a, len, cap, elems, rest, k, rfl, hcs, _, _, hl, _, hlen, hel, _, _⟩
    · injection hcs with h1 _
      exact ⟨⟨none, 0, 0⟩, .nil, h1, ST.nilv w⟩
    · injection hcs with h1 _
      have ce : Try.prog.cellsOf 67 = 5 := by kernel_rfl
      have ci : Try.prog.cellsOf 3 = 1 := by kernel_rfl
      have cx : Try.prog.cellsOf 32 = 1 := by kernel_rfl
      have cc : Try.prog.cellsOf 28 = 1 := by kernel_rfl
      rw [ce] at hel
      have each : ∀ i, i < len → ∃ q : CV, (w.cell? (a.add (i * 5)) = some (.int .i64 q.k) ∧ w.cell? (a.add (i * 5 + 1)) = some (.int .i64 q.t) ∧ w.cell? (a.add (i * 5 + 2)) = some q.c.v ∧ w.cell? (a.add (i * 5 + 3)) = some q.s.v ∧ w.cell? (a.add (i * 5 + 4)) = some q.u.v) ∧ VM w q := by
        intro i hi
        have e := hel i hi
        rw [List.getElem?_eq_getElem (show i < elems.length by omega)] at e
        obtain ⟨cs', hc, ht'⟩ := Option.bind_eq_some_iff.1 e
        obtain ⟨_, hcl, hat⟩ := World.cells?_some hc
        match cs', hcl with
        | [q0, q1, q2, q3, q4], _ =>
          have g0 := hat (i := 0) (by decide)
          have g1 := hat (i := 1) (by decide)
          have g2 := hat (i := 2) (by decide)
          have g3 := hat (i := 3) (by decide)
          have g4 := hat (i := 4) (by decide)
          rw [Go.Deep.add_add] at g0 g1 g2 g3 g4
          obtain ⟨xs, n', hn', _, _, hlen2, hg⟩ := DataW.trod_struct Try.underlying67 ht'
          match xs, hlen2 with
          | [y0, y1, y2, y3, y4], _ =>
            have f0 := hg 0 _ rfl
            have f1 := hg 1 _ rfl
            have f2 := hg 2 _ rfl
            have f3 := hg 3 _ rfl
            have f4 := hg 4 _ rfl
            simp [ci] at f0 f1
            simp [cx] at f2
            simp [cc] at f3 f4
            obtain ⟨a0, e0, _, _⟩ := DataW.trod_int Try.underlying3 f0
            obtain ⟨a1, e1, _, _⟩ := DataW.trod_int Try.underlying3 f1
            injection e0 with e0 _
            injection e1 with e1 _
            obtain ⟨na, nn, nc, N, e2, sn⟩ := open_sn f2
            obtain ⟨s3, T3, e3, st3⟩ := ih n' q3 _ (by omega) f3
            obtain ⟨s4, T4, e4, st4⟩ := ih n' q4 _ (by omega) f4
            subst e0 e1 e2 e3 e4
            exact ⟨⟨a0, a1, ⟨na, nn, nc⟩, N, s3, T3, s4, T4⟩, ⟨by simpa using g0, by simpa using g1, by simpa using g2, by simpa using g3, by simpa using g4⟩, ⟨sn, st3, st4⟩⟩
      obtain ⟨q, hq⟩ := choose_lt each
      refine ⟨⟨some a, len, cap⟩, CT.ofL ((List.range len).map q), h1, by rw [CT.ofL_len]; simp, (fun e => by cases e), hl, fun ad e => ?_⟩
      cases e
      refine ctm_ofL _ 0 (fun i hi => ?_)
      have hi' : i < len := by simpa using hi
      have e : ((List.range len).map q).getD i cz = q i := by
        rw [List.getD_eq_getElem?_getD, List.getElem?_map, List.getElem?_range hi']; rfl
      rw [e, Nat.zero_add, add_nr _ _ 1 (by decide), add_nr _ _ 2 (by decide), add_nr _ _ 3 (by decide), add_nr _ _ 4 (by decide)]
      exact hq i hi'
set_option maxRecDepth 100000 in
theorem open_ctree {r : Reach} {b0 : Nat} {v : Value} {d : DataW H} {p : List MemPlace} (hv : Value.okWide Try.prog w r b0 28 v) (h : DataW.Trod enc Try.prog w 0 (fun _ => true) true 28 v d p) :
    ∃ (s : Sl) (T : CT), v = .slice s.a s.n s.c ∧ ST w s T := by
  obtain ⟨a0, len0, cap0, rfl⟩ := okWide_slice Try.underlying28 hv
  obtain ⟨fuel, hf⟩ := h
  exact open_ct (fuel + 1) fuel _ _ (by omega) hf
theorem lowD2 {W W' : World} {e : Ending} (h : RetV (.bool true) W e W') : e = .returned (.bool true) ∧ Below W.heap.size W W' := ⟨h.1, ⟨h.2.os, h.2.tape, h.2.output, h.2.size, fun i hi => h.2.block i hi (by simp)⟩⟩
end
end Go.Proofs.Ytdbjeihbfooipaa
end
section
/- The law Checks: Check answers as the definition; no condition. -/
namespace Go.Proofs.Ytdbjeihbfooipaa
open Go.RowKit
set_option linter.unusedVariables false
def kxP (X : Tb.PX) : KX :=
  { na := none, nn := 0, nc := 0, nm := X.nm, ha := X.ha, hn := X.hn, hc := X.hc, ma := X.ma, mn := X.mn, mc := X.mc, a0 := X.ra, n0 := X.rn, c0 := X.rc, a1 := X.aa, n1 := X.an, c1 := X.ac, a2 := X.ta, n2 := X.tn, c2 := X.tc,
    a3 := X.sa, n3 := X.sn, c3 := X.sc, a4 := X.ca, n4 := X.cn, c4 := X.cc, a5 := X.da, n5 := X.dn, c5 := X.dc, pa := none, pn := 0, pc := 0, va := none, vn := 0, vc := 0, fa := none, fn := 0, fc := 0, ta := none, tn := 0, tc := 0, la := none, ln := 0, lc := 0, aa := none, an := 0, ac := 0 }
set_option maxRecDepth 100000 in
theorem open_pgc {H : Type} {enc : TypeId × Value → H} {w : World} {r : Reach} {b0 : Nat} {v : Value} {d : DataW H} {p : List MemPlace} (hv : Value.okWide Try.prog w r b0 31 v) (h : DataW.Trod enc Try.prog w 0 (fun _ => true) true 31 v d p) :
    ∃ (X : Tb.PX) (P : Tb.Pg) (T : CT), v = .agg #[.string X.nm, .slice X.ha X.hn X.hc, .slice X.ma X.mn X.mc, .slice X.ra X.rn X.rc, .slice X.aa X.an X.ac, .slice X.ta X.tn X.tc, .slice X.sa X.sn X.sc, .slice X.ca X.cn X.cc, .slice X.da X.dn X.dc] ∧ Tb.SP w X P ∧ ST w ⟨X.ca, X.cn, X.cc⟩ T := by
  obtain ⟨X, P, e, sp, n, y, hy⟩ := Tb.open_pg hv h
  obtain ⟨s, T, es, st⟩ := open_ct (n + 1) n _ _ (by omega) hy
  obtain ⟨a, m, c⟩ := s
  injection es with e1 e2 e3
  dsimp only at e1 e2 e3
  subst e1 e2 e3
  exact ⟨X, P, T, e, sp, st⟩
set_option maxRecDepth 100000 in
set_option maxHeartbeats 40000000 in
theorem checks_walk (w : World) (X : Tb.PX) (P : Tb.Pg) (T : CT) (hp : Tb.SP w X P) (hS : ST w ⟨X.ca, X.cn, X.cc⟩ T) : Calls Try.prog 5 #[.agg #[.string X.nm, .slice X.ha X.hn X.hc, .slice X.ma X.mn X.mc, .slice X.ra X.rn X.rc, .slice X.aa X.an X.ac, .slice X.ta X.tn X.tc, .slice X.sa X.sn X.sc, .slice X.ca X.cn X.cc, .slice X.da X.dn X.dc]] w (RetV (.bool true) w) := by
  have TLN := Lib.hid hp.t.len
  have S17 := Lib.hid (fun (w2 : World) (g : w.grownBy w2 none) => Tb.small_any w2 X P (hp.keep0 g))
  have S20 := Lib.hid (fun (w2 : World) (g : w.grownBy w2 none) => small20_any w2 ⟨X.ca, X.cn, X.cc⟩ T (hS.keep0 g) 40 (by decide))
  have CK := Lib.hid (fun (hc : T.cnt ≤ 1000000) (hT : X.tn ≤ 1000000) (w2 : World) (g : w.grownBy w2 none) => kchk_any w2 (kxP X) P.H P.M T (hS.keep0 g) ⟨hp.h.keep0 g, hp.m.keep0 g⟩ hc hT)
  have RK := Lib.hid (fun (hc : T.cnt ≤ 1000000) (w2 : World) (g : w.grownBy w2 none) => rchk20_any w2 (kxP X) P.H P.M T (hS.keep0 g) ⟨hp.h.keep0 g, hp.m.keep0 g⟩ hc)
  have AW := Lib.hid (fun w => works20_any w)
  unfold RetV at AW
  unfold Tb.RetB at S17
  unfold RetCk at CK RK
  dsimp only [kxP] at CK RK S20
  have SMT := Lib.hid (fun (h : Tb.smP P) => (show X.tn ≤ 1000000 by have := h.1; have := TLN.out; omega))
  generalize Tb.smP P = SMP at *
  have SMC := Lib.hid (fun (h : SmC T 40) => (show T.cnt ≤ 1000000 from Nat.le_trans h.1 (by decide)))
  generalize SmC T 40 = SMQ at *
  generalize chkC P.H P.M X.tn T = rr at *
  have G1 := Lib.hid (gb_alloc w (.cells #[.string X.nm, .slice X.ha X.hn X.hc, .slice X.ma X.mn X.mc, .slice X.ra X.rn X.rc, .slice X.aa X.an X.ac, .slice X.ta X.tn X.tc, .slice X.sa X.sn X.sc, .slice X.ca X.cn X.cc, .slice X.da X.dn X.dc] 31) none)
  have B1 := Lib.hid (IsB.new w 31 #[.string X.nm, .slice X.ha X.hn X.hc, .slice X.ma X.mn X.mc, .slice X.ra X.rn X.rc, .slice X.aa X.an X.ac, .slice X.ta X.tn X.tc, .slice X.sa X.sn X.sc, .slice X.ca X.cn X.cc, .slice X.da X.dn X.dc])
  have e1 : (rr.1 == rr.1) = true := beq_self_eq_true _
  have e2 : (rr.2 == rr.2) = true := beq_self_eq_true _
  clear hp hS TLN
  go_enter Try.func5, Try.ntmps5
  go_upto_region 1 with fail
  generalize w.alloc (.cells #[.string X.nm, .slice X.ha X.hn X.hc, .slice X.ma X.mn X.mc, .slice X.ra X.rn X.rc, .slice X.aa X.an X.ac, .slice X.ta X.tn X.tc, .slice X.sa X.sn X.sc, .slice X.ca X.cn X.cc, .slice X.da X.dn X.dc] 31) = w1 at *
  obtain ⟨b, hb⟩ : ∃ b, b = w.heap.size := ⟨_, rfl⟩
  rw [← hb] at B1 ⊢
  clear hb
  have c0 := B1.out.cell 0
  have c1 := B1.out.cell 1
  have c2 := B1.out.cell 2
  have c3 := B1.out.cell 3
  have c4 := B1.out.cell 4
  have c5 := B1.out.cell 5
  have c6 := B1.out.cell 6
  have c7 := B1.out.cell 7
  have c8 := B1.out.cell 8
  dsimp at c0 c1 c2 c3 c4 c5 c6 c7 c8
  go_wp2_with fail
  refine (S17.out w1 G1.out).mono ?_
  rintro e w2 ⟨b17, rfl, g, hb⟩
  have G2 := Lib.hid (gb_trans G1.out g)
  have B2 := Lib.hid (B1.out.keep0 g)
  have H17 := Lib.hid hb
  clear g hb S17 c0 c1 c2 c3 c4 c5 c6 c7 c8
  cases b17 with
  | false =>
    go_wp2_with fail
    refine (AW.out _).mono ?_
    rintro e x1 ⟨rfl, g⟩
    have GZ := Lib.hid (gb_trans G2.out g)
    clear g
    go_wp2
    go_ret
    exact ⟨rfl, GZ.out⟩
  | true =>
    have hT := SMT.out (H17.out rfl)
    have c7 := B2.out.cell 7
    dsimp at c7
    go_wp2_with fail
    refine (S20.out w2 G2.out).mono ?_
    rintro e w3 ⟨⟨b20, rfl, hb⟩, g⟩
    have G3 := Lib.hid (gb_trans G2.out g)
    have B3 := Lib.hid (B2.out.keep0 g)
    have H20 := Lib.hid hb
    clear g hb S20 c7
    cases b20 with
    | false =>
      go_wp2_with fail
      refine (AW.out _).mono ?_
      rintro e x1 ⟨rfl, g⟩
      have GZ := Lib.hid (gb_trans G3.out g)
      clear g
      go_wp2
      go_ret
      exact ⟨rfl, GZ.out⟩
    | true =>
      have hc := SMC.out (H20.out rfl)
      have c0 := B3.out.cell 0
      have c1 := B3.out.cell 1
      have c2 := B3.out.cell 2
      have c3 := B3.out.cell 3
      have c4 := B3.out.cell 4
      have c5 := B3.out.cell 5
      have c6 := B3.out.cell 6
      have c7 := B3.out.cell 7
      have c8 := B3.out.cell 8
      dsimp at c0 c1 c2 c3 c4 c5 c6 c7 c8
      go_wp2_with (first
        | (go_at_call 28; refine (CK.out hc hT _ G3.out).mono ?_; clear CK; rintro e w4 ⟨rfl, g4⟩; have G4 := Lib.hid (gb_trans G3.out g4); have B4 := Lib.hid (B3.out.keep0 g4); clear g4 c0 c1 c2 c3 c4 c5 c6 c7 c8; have c0 := B4.out.cell 0; have c1 := B4.out.cell 1; have c2 := B4.out.cell 2; have c3 := B4.out.cell 3; have c4 := B4.out.cell 4; have c5 := B4.out.cell 5; have c6 := B4.out.cell 6; have c7 := B4.out.cell 7; have c8 := B4.out.cell 8; dsimp at c0 c1 c2 c3 c4 c5 c6 c7 c8)
        | (go_at_call 29; refine (RK.out hc _ G4.out).mono ?_; clear RK; rintro e w5 ⟨rfl, g5⟩; have G5 := Lib.hid (gb_trans G4.out g5); clear g5 c0 c1 c2 c3 c4 c5 c6 c7 c8)
        | (go_at_call 27; refine (AW.out _).mono ?_; rintro e w6 ⟨rfl, g6⟩; have G6 := Lib.hid (gb_trans G5.out g6); clear g6))
      go_ret
      exact ⟨rfl, G6.out⟩
end Go.Proofs.Ytdbjeihbfooipaa
end
