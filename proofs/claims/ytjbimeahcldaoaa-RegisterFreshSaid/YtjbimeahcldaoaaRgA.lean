/- Register: the declarations and the contents in memory; what the functions answer, on lists; no condition. -/
import Derived.Test.YtjbimeahcldaoaaHdI
import Derived.Deep.RegionWith
import Derived.Deep.RegionHeld3
import Derived.Deep.CutRange
import Derived.Laws.ResultCell
import Derived.Laws.CopyOwn
import Derived.WalkMore
namespace Go.Proofs.Ytjbimeahcldaoaa
open Go.RowKit
set_option linter.unusedVariables false
/-- The call returns v and leaves the world as it is. -/
def RetS (v : Value) (w : World) (e : Ending) (w' : World) : Prop := e = .returned v ∧ w' = w
/-- The call returns v and makes memory at most. -/
def RetV (v : Value) (w : World) (e : Ending) (w' : World) : Prop := e = .returned v ∧ w.grownBy w' none
theorem gb_al {W w : World} {o : Obj} (h : W.grownBy w none) : W.grownBy (w.alloc o) none := gb_trans h (gb_alloc w o none)
theorem gb_dr {W w : World} {n : Nat} (h : W.grownBy w none) : W.grownBy (w.drewN n) none := gb_trans h (gb_drewN w n none)
theorem gb_dr1 {W w : World} (h : W.grownBy w none) : W.grownBy w.drew none := gb_trans h (gb_drew w none)
theorem gb_put {W0 w : World} {g i : Nat} {u : Value} (h : W0.grownBy w none) (hg : W0.heap.size ≤ g) : W0.grownBy (w.setCell ⟨g, i, none⟩ u) none := gb_new (gb_trans (gb_any h) (gb_set _ _ _ _)) hg
theorem sz_set (w : World) (a : Addr) (v : Value) : (w.setCell a v).heap.size = w.heap.size := by simp [World.setCell]
theorem sz_al (w : World) (o : Obj) : (w.alloc o).heap.size = w.heap.size + 1 := by show (w.heap.push _).size = _; simp
/-- A declared register: its name, its width, its number of cells. -/
abbrev Rg := ByteArray × Int × Int
def rz : Rg := (ByteArray.empty, 0, 0)
/-- A slice that reads as a list of registers. -/
structure SG (w : World) (a : Option Addr) (n c : Nat) (L : List Rg) : Prop where
  len : L.length = n
  nil : a = none → n = 0 ∧ c = 0
  cap : n ≤ c
  cells : ∀ ad, a = some ad → ∀ j, j < n → w.cell? (ad.add (j * 3)) = some (.string (L.getD j rz).1) ∧ w.cell? ⟨(ad.add (j * 3)).block, (ad.add (j * 3)).off + 1, none⟩ = some (.int .i64 (L.getD j rz).2.1) ∧ w.cell? ⟨(ad.add (j * 3)).block, (ad.add (j * 3)).off + 2, none⟩ = some (.int .i64 (L.getD j rz).2.2)
  rng : ∀ x ∈ L, (-9223372036854775808 ≤ x.2.1 ∧ x.2.1 ≤ 9223372036854775807) ∧ -9223372036854775808 ≤ x.2.2 ∧ x.2.2 ≤ 9223372036854775807
theorem SG.keep0 {w w2 : World} {a : Option Addr} {n c : Nat} {L : List Rg} (h : SG w a n c L) (k : w.grownBy w2 none) : SG w2 a n c L :=
  ⟨h.len, h.nil, h.cap, fun ad e j hj => ⟨k.cell (h.cells ad e j hj).1 (by simp), k.cell (h.cells ad e j hj).2.1 (by simp), k.cell (h.cells ad e j hj).2.2 (by simp)⟩, h.rng⟩
theorem SG.some {w : World} {a : Option Addr} {n c : Nat} {L : List Rg} (h : SG w a n c L) (hn : 0 < n) : ∃ ad, a = some ad := by
  cases a with
  | none => have := (h.nil rfl).1; omega
  | some ad => exact ⟨ad, rfl⟩
theorem SG.at_ {w : World} {a : Option Addr} {n c : Nat} {L : List Rg} (h : SG w a n c L) (j : Nat) (hj : j < n) : (-9223372036854775808 ≤ (L.getD j rz).2.1 ∧ (L.getD j rz).2.1 ≤ 9223372036854775807) ∧ -9223372036854775808 ≤ (L.getD j rz).2.2 ∧ (L.getD j rz).2.2 ≤ 9223372036854775807 := by
  have hj : j < L.length := by rw [h.len]; exact hj
  rw [List.getD_eq_getElem?_getD, List.getElem?_eq_getElem hj]; exact h.rng _ (List.getElem_mem _)
/-- A slice of uint32, with their range. -/
structure SU (w : World) (a : Option Addr) (n c : Nat) (L : List Int) : Prop where
  len : L.length = n
  nil : a = none → n = 0 ∧ c = 0
  cap : n ≤ c
  cells : ∀ ad, a = some ad → ∀ j, j < n → w.cell? (ad.add j) = some (.int .u32 (L.getD j 0))
  rng : ∀ x ∈ L, 0 ≤ x ∧ x < 4294967296
theorem SU.keep0 {w w2 : World} {a : Option Addr} {n c : Nat} {L : List Int} (h : SU w a n c L) (k : w.grownBy w2 none) : SU w2 a n c L :=
  ⟨h.len, h.nil, h.cap, fun ad e j hj => k.cell (h.cells ad e j hj) (by simp), h.rng⟩
theorem SU.some {w : World} {a : Option Addr} {n c : Nat} {L : List Int} (h : SU w a n c L) (hn : 0 < n) : ∃ ad, a = some ad := by
  cases a with
  | none => have := (h.nil rfl).1; omega
  | some ad => exact ⟨ad, rfl⟩
theorem rng_at {L : List Int} (h : ∀ x ∈ L, 0 ≤ x ∧ x < 4294967296) (j : Nat) : 0 ≤ L.getD j 0 ∧ L.getD j 0 < 4294967296 := by
  by_cases hj : j < L.length
  · rw [List.getD_eq_getElem?_getD, List.getElem?_eq_getElem hj]; exact h _ (List.getElem_mem _)
  · rw [List.getD_eq_getElem?_getD, List.getElem?_eq_none (by omega)]; exact ⟨Int.le_refl _, by decide⟩
theorem SU.at_ {w : World} {a : Option Addr} {n c : Nat} {L : List Int} (h : SU w a n c L) (j : Nat) : 0 ≤ L.getD j 0 ∧ L.getD j 0 < 4294967296 := rng_at h.rng j
theorem SU.slr {w : World} {a : Option Addr} {n c : Nat} {L : List Int} (h : SU w a n c L) : SlR w a n c (L.map (Value.int .u32)) :=
  ⟨by simp [h.len], h.nil, fun ad e j u hu => by
    have hj : j < L.length := by
      have := (List.getElem?_eq_some_iff.1 hu).1
      simpa using this
    rw [h.cells ad e j (by rw [← h.len]; exact hj), ← hu]
    simp [hj]⟩
/-- A slice of slices of uint32. -/
structure SR (w : World) (a : Option Addr) (n c : Nat) (L : List (List Int)) : Prop where
  len : L.length = n
  nil : a = none → n = 0 ∧ c = 0
  cap : n ≤ c
  cells : ∀ ad, a = some ad → ∀ j, j < n → ∃ fa fn fc, w.cell? (ad.add j) = some (.slice fa fn fc) ∧ SU w fa fn fc (L.getD j [])
theorem SR.keep0 {w w2 : World} {a : Option Addr} {n c : Nat} {L : List (List Int)} (h : SR w a n c L) (k : w.grownBy w2 none) : SR w2 a n c L :=
  ⟨h.len, h.nil, h.cap, fun ad e j hj => by obtain ⟨fa, fn, fc, h1, h2⟩ := h.cells ad e j hj; exact ⟨fa, fn, fc, k.cell h1 (by simp), h2.keep0 k⟩⟩
theorem SR.some {w : World} {a : Option Addr} {n c : Nat} {L : List (List Int)} (h : SR w a n c L) (hn : 0 < n) : ∃ ad, a = some ad := by
  cases a with
  | none => have := (h.nil rfl).1; omega
  | some ad => exact ⟨ad, rfl⟩
theorem su_nil (w : World) : SU w none 0 0 [] := ⟨rfl, fun _ => ⟨rfl, rfl⟩, Nat.le_refl _, (fun ad e => by cases e), (fun x hx => by cases hx)⟩
theorem sr_nil (w : World) : SR w none 0 0 [] := ⟨rfl, (fun _ => ⟨rfl, rfl⟩), Nat.le_refl _, (fun ad e => by cases e)⟩
/-- A row of numbers of the call's own. -/
def NU (w : World) (base : Nat) (V : Value) (L : List Int) : Prop := w.ownsRow base 44 1 V L.length (L.map (Value.int .u32))
theorem NU.keep0 {w w2 : World} {base : Nat} {V : Value} {L : List Int} (h : NU w base V L) (k : w.grownBy w2 none) : NU w2 base V L := own_keep0 h k
theorem nu_su {w : World} {base : Nat} {a : Option Addr} {n c : Nat} {L : List Int} (h : NU w base (.slice a n c) L) (hn : L.length = n) (hr : ∀ x ∈ L, 0 ≤ x ∧ x < 4294967296) : SU w a n c L := by
  subst hn
  have s := own_slr h
  exact ⟨rfl, s.2.1, own_cap h, fun ad e j hj => s.2.2 ad e j _ (by simp [hj]), hr⟩
theorem nu_shape {w : World} {base : Nat} {V : Value} {L : List Int} (h : NU w base V L) : ∃ a c, V = .slice a L.length c := own_shape h
def nilV : Value := .slice none 0 0
/-- Rows of the call's own, and the row of their heads. -/
structure OR (w : World) (base : Nat) (V : Value) (L : List (List Int)) (Vs : List Value) : Prop where
  out : w.ownsRow base 53 1 V L.length Vs
  own : ∀ x, x < L.length → NU w base (Vs.getD x nilV) (L.getD x [])
  dis : ∀ x y, x < L.length → y < L.length → x ≠ y → ∀ q, (Vs.getD x nilV).ownBlock = some q → (Vs.getD y nilV).ownBlock ≠ some q
  rng : ∀ l ∈ L, ∀ x ∈ l, 0 ≤ x ∧ x < 4294967296
theorem OR.nV {w : World} {base : Nat} {V : Value} {L : List (List Int)} {Vs : List Value} (h : OR w base V L Vs) : Vs.length = L.length := by simpa using h.out.1
theorem OR.keep0 {w w2 : World} {base : Nat} {V : Value} {L : List (List Int)} {Vs : List Value} (h : OR w base V L Vs) (k : w.grownBy w2 none) : OR w2 base V L Vs :=
  ⟨own_keep0 h.out k, fun x hx => (h.own x hx).keep0 k, h.dis, h.rng⟩
theorem OR.low {w : World} {base b2 : Nat} {V : Value} {L : List (List Int)} {Vs : List Value} (h : OR w base V L Vs) (hb : b2 ≤ base) : OR w b2 V L Vs :=
  ⟨own_low h.out hb, fun x hx => own_low (h.own x hx) hb, h.dis, h.rng⟩
theorem OR.shape {w : World} {base : Nat} {V : Value} {L : List (List Int)} {Vs : List Value} (h : OR w base V L Vs) : ∃ a c, V = .slice a L.length c := own_shape h.out
theorem rrng_at {L : List (List Int)} (h : ∀ l ∈ L, ∀ x ∈ l, 0 ≤ x ∧ x < 4294967296) (j : Nat) : ∀ x ∈ L.getD j [], 0 ≤ x ∧ x < 4294967296 := by
  intro x hx
  by_cases hj : j < L.length
  · rw [List.getD_eq_getElem?_getD, List.getElem?_eq_getElem hj] at hx; exact h _ (List.getElem_mem _) x hx
  · rw [List.getD_eq_getElem?_getD, List.getElem?_eq_none (by omega)] at hx; cases hx
theorem OR.sr {w : World} {base : Nat} {a : Option Addr} {n c : Nat} {L : List (List Int)} {Vs : List Value} (h : OR w base (.slice a n c) L Vs) (hn : L.length = n) : SR w a n c L := by
  subst hn
  have s := own_slr h.out
  refine ⟨rfl, s.2.1, own_cap h.out, fun ad e j hj => ?_⟩
  have hv : j < Vs.length := by rw [h.nV]; exact hj
  have o := h.own j hj
  obtain ⟨fa, fc, hs⟩ := nu_shape o
  have s2 := s.2.2 ad e j _ (List.getElem?_eq_getElem hv)
  have e2 : Vs[j] = Vs.getD j nilV := by simp [hv]
  rw [e2, hs] at s2
  rw [hs] at o
  exact ⟨fa, _, fc, s2, nu_su o rfl (rrng_at h.rng j)⟩
/-- The call returns rows of its own and makes memory at most. -/
def RetR (L : List (List Int)) (w : World) (e : Ending) (w' : World) : Prop := ∃ V Vs, e = .returned V ∧ OR w' w.heap.size V L Vs ∧ w.grownBy w' none
theorem results_cell1 {fn : Func} {p : Tmp} {ty : TypeId} (h : fn.results = #[.cell p ty]) (tmps : Array Value) (P : Program) (w : World) :
    (results fn tmps).run P w = ((asAddr (tmps.getD p undef)).run P w).andThen fun a w₁ => ((loadVar ty a).run P w₁) := by
  simp only [results, h]
  simp [Sem.run_bind, Result.andThen]
/-- What the functions answer, on lists. -/
def okS (n : Int) : Bool := decide (1 ≤ n ∧ n ≤ 64)
def isX (i : Int) (n : Nat) : Bool := decide (0 ≤ i ∧ i < (n : Int))
theorem isX_iff (i : Int) (n : Nat) : isX i n = true ↔ 0 ≤ i ∧ i < (n : Int) := by unfold isX; exact decide_eq_true_iff
theorem isX_not (i : Int) (n : Nat) : isX i n = false ↔ ¬ (0 ≤ i ∧ i < (n : Int)) := by unfold isX; exact decide_eq_false_iff_not
def chkG (r : Rg) : Int := if Lx.isId (Lx.bytesI r.1) = false then 6 else if okW r.2.1 = false then 10 else if okS r.2.2 = false then 9 else 0
def szN (n : Int) : Nat := if okS n then n.toNat else 0
def newL (L : List Rg) : List (List Int) := L.map fun r => List.replicate (szN r.2.2) 0
def sameSz (L : List Rg) (R : List (List Int)) : Bool := (L.zip R).all fun p => decide ((p.2.length : Int) = p.1.2.2)
def fitR (r : Rg) (l : List Int) : Bool := l.all fun x => decide (x ≤ mkB r.2.1)
def fitL (L : List Rg) (R : List (List Int)) : Bool := (L.zip R).all fun p => fitR p.1 p.2
def contE (L : List Rg) (R : List (List Int)) : Int := if L.length = R.length ∧ sameSz L R = true then (if fitL L R = true then 0 else 9) else 2
def cellB (L : List Rg) (R : List (List Int)) (r i : Int) : Bool := decide (0 ≤ r ∧ r < L.length ∧ r < R.length ∧ i < (L.getD r.toNat rz).2.2 ∧ i < (R.getD r.toNat []).length)
def readL (L : List Rg) (R : List (List Int)) (r i : Int) : Int := if cellB L R r i then (R.getD r.toNat []).getD i.toNat 0 else 0
def writeL (L : List Rg) (R : List (List Int)) (r i v : Int) : List (List Int) := if cellB L R r i && okW (L.getD r.toNat rz).2.1 then R.set r.toNat ((R.getD r.toNat []).set i.toNat (redB v (L.getD r.toNat rz).2.1)) else R
def bigB (L : List Rg) (R : List (List Int)) : Bool := decide (8 < L.length ∨ 8 < R.length) || R.any fun l => decide (100 < l.length)
end Go.Proofs.Ytjbimeahcldaoaa
