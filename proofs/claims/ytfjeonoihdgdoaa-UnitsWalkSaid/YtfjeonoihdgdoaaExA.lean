/- Expr: programs, environments, nodes and the walk's block in memory; no condition. -/
import Derived.Test.YtfjeonoihdgdoaaExP
import Derived.Test.YtfjeonoihdgdoaaBvC
import Derived.Deep.RegionWith
import Derived.Deep.RegionHeld3
import Derived.Deep.CutRange
import Derived.Laws.ResultCell
import Derived.WalkMore
namespace Go.Proofs.Ytfjeonoihdgdoaa
open Go.RowKit
set_option linter.unusedVariables false
/-- The call returns v and leaves the world as it is. -/
def RetS (v : Value) (w : World) (e : Ending) (w' : World) : Prop := e = .returned v ∧ w' = w
/-- The call returns v and makes memory at most. -/
def RetV (v : Value) (w : World) (e : Ending) (w' : World) : Prop := e = .returned v ∧ w.grownBy w' none
theorem gb_al {W w : World} {o : Obj} (h : W.grownBy w none) : W.grownBy (w.alloc o) none := gb_trans h (gb_alloc w o none)
theorem gb_dr {W w : World} {n : Nat} (h : W.grownBy w none) : W.grownBy (w.drewN n) none := gb_trans h (gb_drewN w n none)
theorem gb_dr1 {W w : World} (h : W.grownBy w none) : W.grownBy w.drew none := gb_trans h (gb_drew w none)
theorem gb_put {W0 w : World} {g i : Nat} {u : Value} (h : W0.grownBy w none) (hg : W0.heap.size ≤ g) : W0.grownBy (w.setCell ⟨g, i, none⟩ u) none := gb_new (gb_trans (gb_any h) (gb_set _ _ _ _)) hg
/-- A store into one block, seen from a world in which that block lay. -/
theorem gr_al {W w : World} {o : Obj} {r : Option Nat} (h : W.grownBy w r) : W.grownBy (w.alloc o) r := gb_trans h (gb_alloc w o r)
theorem gr_dr {W w : World} {n : Nat} {r : Option Nat} (h : W.grownBy w r) : W.grownBy (w.drewN n) r := gb_trans h (gb_drewN w n r)
theorem gr_dr1 {W w : World} {r : Option Nat} (h : W.grownBy w r) : W.grownBy w.drew r := gb_trans h (gb_drew w r)
theorem gr_set {W w : World} {g i : Nat} {u : Value} (h : W.grownBy w (some g)) : W.grownBy (w.setCell ⟨g, i, none⟩ u) (some g) := gb_trans h (gb_set _ _ _ _)
theorem gr_put {W w : World} {g i : Nat} {u : Value} {r : Option Nat} (h : W.grownBy w r) (hg : W.heap.size ≤ g) : W.grownBy (w.setCell ⟨g, i, none⟩ u) r :=
  ⟨h.os, h.tape, h.output, Nat.le_trans h.size (gb_set w g i u).size, fun j hj hr => by
    have := (gb_set w g i u).block j (Nat.lt_of_lt_of_le hj h.size) (by intro e; injection e with e; omega)
    rw [this]; exact h.block j hj hr⟩
theorem sz_set (w : World) (a : Addr) (v : Value) : (w.setCell a v).heap.size = w.heap.size := by simp [World.setCell]
theorem sz_al (w : World) (o : Obj) : (w.alloc o).heap.size = w.heap.size + 1 := by show (w.heap.push _).size = _; simp
theorem sz_dr (w : World) (n : Nat) : (w.drewN n).heap.size = w.heap.size := rfl
theorem sz_dr1 (w : World) : w.drew.heap.size = w.heap.size := rfl
/-- A slice that reads as a list of fields. -/
structure SF (w : World) (a : Option Addr) (n c : Nat) (L : List Fld) : Prop where
  len : L.length = n
  nil : a = none → n = 0 ∧ c = 0
  cap : n ≤ c
  cells : ∀ ad, a = some ad → ∀ j, j < n → w.cell? (ad.add (j * 2)) = some (.string (L.getD j fz).1) ∧ w.cell? ⟨(ad.add (j * 2)).block, (ad.add (j * 2)).off + 1, none⟩ = some (.int .i64 (L.getD j fz).2)
theorem SF.keep0 {w w2 : World} {a : Option Addr} {n c : Nat} {L : List Fld} (h : SF w a n c L) (k : w.grownBy w2 none) : SF w2 a n c L :=
  ⟨h.len, h.nil, h.cap, fun ad e j hj => ⟨k.cell (h.cells ad e j hj).1 (by simp), k.cell (h.cells ad e j hj).2 (by simp)⟩⟩
theorem SF.some {w : World} {a : Option Addr} {n c : Nat} {L : List Fld} (h : SF w a n c L) (hn : 0 < n) : ∃ ad, a = some ad := by
  cases a with
  | none => have := (h.nil rfl).1; omega
  | some ad => exact ⟨ad, rfl⟩
/-- A slice that reads as a list of headers. -/
structure SH (w : World) (a : Option Addr) (n c : Nat) (L : List (ByteArray × List Fld)) : Prop where
  len : L.length = n
  nil : a = none → n = 0 ∧ c = 0
  cap : n ≤ c
  cells : ∀ ad, a = some ad → ∀ j, j < n → w.cell? (ad.add (j * 2)) = some (.string (L.getD j hz).1) ∧ ∃ fa fn fc, w.cell? ⟨(ad.add (j * 2)).block, (ad.add (j * 2)).off + 1, none⟩ = some (.slice fa fn fc) ∧ SF w fa fn fc (L.getD j hz).2
theorem SH.keep0 {w w2 : World} {a : Option Addr} {n c : Nat} {L : List (ByteArray × List Fld)} (h : SH w a n c L) (k : w.grownBy w2 none) : SH w2 a n c L :=
  ⟨h.len, h.nil, h.cap, fun ad e j hj => ⟨k.cell (h.cells ad e j hj).1 (by simp), by obtain ⟨fa, fn, fc, h1, h2⟩ := (h.cells ad e j hj).2; exact ⟨fa, fn, fc, k.cell h1 (by simp), h2.keep0 k⟩⟩⟩
theorem SH.some {w : World} {a : Option Addr} {n c : Nat} {L : List (ByteArray × List Fld)} (h : SH w a n c L) (hn : 0 < n) : ∃ ad, a = some ad := by
  cases a with
  | none => have := (h.nil rfl).1; omega
  | some ad => exact ⟨ad, rfl⟩
/-- A slice that reads as a list of nodes. -/
structure SN (w : World) (a : Option Addr) (n c : Nat) (L : List Nd) : Prop where
  len : L.length = n
  nil : a = none → n = 0 ∧ c = 0
  cap : n ≤ c
  cells : ∀ ad, a = some ad → ∀ j, j < n → w.cell? (ad.add (j * 3)) = some (.int .i64 (L.getD j nz).1) ∧ w.cell? ⟨(ad.add (j * 3)).block, (ad.add (j * 3)).off + 1, none⟩ = some (.int .i64 (L.getD j nz).2.1) ∧ w.cell? ⟨(ad.add (j * 3)).block, (ad.add (j * 3)).off + 2, none⟩ = some (.int .i64 (L.getD j nz).2.2)
  rng : ∀ x ∈ L, -9223372036854775808 ≤ x.2.1 ∧ x.2.1 ≤ 9223372036854775807
theorem SN.keep0 {w w2 : World} {a : Option Addr} {n c : Nat} {L : List Nd} (h : SN w a n c L) (k : w.grownBy w2 none) : SN w2 a n c L :=
  ⟨h.len, h.nil, h.cap, fun ad e j hj => ⟨k.cell (h.cells ad e j hj).1 (by simp), k.cell (h.cells ad e j hj).2.1 (by simp), k.cell (h.cells ad e j hj).2.2 (by simp)⟩, h.rng⟩
theorem SN.some {w : World} {a : Option Addr} {n c : Nat} {L : List Nd} (h : SN w a n c L) (hn : 0 < n) : ∃ ad, a = some ad := by
  cases a with
  | none => have := (h.nil rfl).1; omega
  | some ad => exact ⟨ad, rfl⟩
/-- A slice of uint32, with their range. -/
structure SU (w : World) (a : Option Addr) (n c : Nat) (L : List Int) : Prop where
  len : L.length = n
  nil : a = none → n = 0 ∧ c = 0
  cap : n ≤ c
  cells : ∀ ad, a = some ad → ∀ j, j < n → w.cell? (ad.add j) = some (.int .u32 (L.getD j 0))
  rng : ∀ x ∈ L, 0 ≤ x ∧ x < 4294967296
theorem SU.keep0 {w w2 : World} {a : Option Addr} {n c : Nat} {L : List Int} (h : SU w a n c L) (k : w.grownBy w2 none) : SU w2 a n c L :=
  ⟨h.len, h.nil, h.cap, fun ad e j hj => k.cell (h.cells ad e j hj) (by simp), h.rng⟩
theorem SU.some {w : World} {a : Option Addr} {n c : Nat} {L : List Int} (h : SU w a n c L) (hn : 0 < n) : ∃ ad, a = some ad := by
  cases a with
  | none => have := (h.nil rfl).1; omega
  | some ad => exact ⟨ad, rfl⟩
theorem SU.at_ {w : World} {a : Option Addr} {n c : Nat} {L : List Int} (h : SU w a n c L) (j : Nat) : 0 ≤ L.getD j 0 ∧ L.getD j 0 < 4294967296 := by
  by_cases hj : j < L.length
  · rw [List.getD_eq_getElem?_getD, List.getElem?_eq_getElem hj]; exact h.rng _ (List.getElem_mem _)
  · rw [List.getD_eq_getElem?_getD, List.getElem?_eq_none (by omega)]; exact ⟨Int.le_refl _, by decide⟩
/-- A slice of slices of uint32. -/
structure SR (w : World) (a : Option Addr) (n c : Nat) (L : List (List Int)) : Prop where
  len : L.length = n
  nil : a = none → n = 0 ∧ c = 0
  cap : n ≤ c
  cells : ∀ ad, a = some ad → ∀ j, j < n → ∃ fa fn fc, w.cell? (ad.add j) = some (.slice fa fn fc) ∧ SU w fa fn fc (L.getD j [])
theorem SR.keep0 {w w2 : World} {a : Option Addr} {n c : Nat} {L : List (List Int)} (h : SR w a n c L) (k : w.grownBy w2 none) : SR w2 a n c L :=
  ⟨h.len, h.nil, h.cap, fun ad e j hj => by obtain ⟨fa, fn, fc, h1, h2⟩ := h.cells ad e j hj; exact ⟨fa, fn, fc, k.cell h1 (by simp), h2.keep0 k⟩⟩
theorem SR.some {w : World} {a : Option Addr} {n c : Nat} {L : List (List Int)} (h : SR w a n c L) (hn : 0 < n) : ∃ ad, a = some ad := by
  cases a with
  | none => have := (h.nil rfl).1; omega
  | some ad => exact ⟨ad, rfl⟩
/-- A slice of truth values. -/
structure SB (w : World) (a : Option Addr) (n c : Nat) (L : List Bool) : Prop where
  len : L.length = n
  nil : a = none → n = 0 ∧ c = 0
  cap : n ≤ c
  cells : ∀ ad, a = some ad → ∀ j, j < n → w.cell? (ad.add j) = some (.bool (L.getD j false))
theorem SB.keep0 {w w2 : World} {a : Option Addr} {n c : Nat} {L : List Bool} (h : SB w a n c L) (k : w.grownBy w2 none) : SB w2 a n c L :=
  ⟨h.len, h.nil, h.cap, fun ad e j hj => k.cell (h.cells ad e j hj) (by simp)⟩
theorem SB.some {w : World} {a : Option Addr} {n c : Nat} {L : List Bool} (h : SB w a n c L) (hn : 0 < n) : ∃ ad, a = some ad := by
  cases a with
  | none => have := (h.nil rfl).1; omega
  | some ad => exact ⟨ad, rfl⟩
theorem results_cell1 {fn : Func} {p : Tmp} {ty : TypeId} (h : fn.results = #[.cell p ty]) (tmps : Array Value) (P : Program) (w : World) :
    (results fn tmps).run P w = ((asAddr (tmps.getD p undef)).run P w).andThen fun a w₁ => ((loadVar ty a).run P w₁) := by
  simp only [results, h]
  simp [Sem.run_bind, Result.andThen]
theorem isX_iff (i : Int) (n : Nat) : isX i n = true ↔ 0 ≤ i ∧ i < (n : Int) := by unfold isX; exact decide_eq_true_iff
theorem isX_not (i : Int) (n : Nat) : isX i n = false ↔ ¬ (0 ≤ i ∧ i < (n : Int)) := by unfold isX; exact decide_eq_false_iff_not
theorem isx_any (w : World) (i : Int) (n : Nat) : Calls Try.prog 65 #[.int .i64 i, .int .i64 (n : Int)] w (RetS (.bool (isX i n)) w) := by
  by_cases h0 : 0 ≤ i
  · by_cases h1 : i < (n : Int)
    · have HX := Lib.hid ((isX_iff i n).2 ⟨h0, h1⟩)
      go_enter Try.func65, Try.ntmps65
      go_wp2
      go_ret
      exact ⟨by rw [HX.out] <;> rfl, rfl⟩
    · have HX := Lib.hid ((isX_not i n).2 (fun h => h1 h.2))
      go_enter Try.func65, Try.ntmps65
      go_wp2
      go_ret
      exact ⟨by rw [HX.out] <;> rfl, rfl⟩
  · have HX := Lib.hid ((isX_not i n).2 (fun h => h0 h.1))
    go_enter Try.func65, Try.ntmps65
    go_wp2
    go_ret
    exact ⟨by rw [HX.out] <;> rfl, rfl⟩
theorem eisx_any (w : World) (i : Int) (n : Nat) : Calls Try.prog 153 #[.int .i64 i, .int .i64 (n : Int)] w (RetS (.bool (isX i n)) w) := by
  by_cases h0 : 0 ≤ i
  · by_cases h1 : i < (n : Int)
    · have HX := Lib.hid ((isX_iff i n).2 ⟨h0, h1⟩)
      go_enter Try.func153, Try.ntmps153
      go_wp2
      go_ret
      exact ⟨by rw [HX.out] <;> rfl, rfl⟩
    · have HX := Lib.hid ((isX_not i n).2 (fun h => h1 h.2))
      go_enter Try.func153, Try.ntmps153
      go_wp2
      go_ret
      exact ⟨by rw [HX.out] <;> rfl, rfl⟩
  · have HX := Lib.hid ((isX_not i n).2 (fun h => h0 h.1))
    go_enter Try.func153, Try.ntmps153
    go_wp2
    go_ret
    exact ⟨by rw [HX.out] <;> rfl, rfl⟩
theorem fits0 (w : Int) : fitsB 0 w = okW w := by
  unfold fitsB okW
  rw [Bool.eq_iff_iff, decide_eq_true_eq, decide_eq_true_eq]
  exact ⟨fun h => ⟨h.1, h.2.1⟩, fun h => ⟨h.1, h.2, pow_pos' _⟩⟩
theorem isw_any (W : World) (w : Int) : Calls Try.prog 129 #[.int .i64 w] W (RetV (.bool (okW w)) W) := by
  have F := fits_any 0 w W
  rw [fits0] at F
  unfold Ret at F
  go_enter Try.func129, Try.ntmps129
  go_wp2_with fail
  refine F.mono ?_
  rintro e w1 ⟨rfl, g1⟩
  have G1 := Lib.hid (gb_gr g1 none)
  clear g1 F
  go_wp2
  go_ret
  exact ⟨rfl, G1.out⟩
theorem bit_any (W : World) (b : Bool) : Calls Try.prog 134 #[.bool b] W (RetS (.int .u32 (bitI b)) W) := by
  cases b
  all_goals
    go_enter Try.func134, Try.ntmps134
    go_wp2
    go_ret
    exact ⟨rfl, rfl⟩
theorem arity_any (W : World) (op : Int) : Calls Try.prog 66 #[.int .i64 op] W (RetS (.tuple #[.int .i64 (arN op : Int), .bool (arB op)]) W) := by
  rcases (show op < 1 ∨ (1 ≤ op ∧ op ≤ 4) ∨ (4 < op ∧ op ≤ 8) ∨ (8 < op ∧ op ≤ 16) ∨ op = 17 ∨ 17 < op by omega) with h | ⟨h, k⟩ | ⟨h, k⟩ | ⟨h, k⟩ | h | h
  · have e1 : arN op = 0 := by unfold arN; rw [if_neg (by omega)]
    have e2 : arB op = false := by unfold arB; exact decide_eq_false (by omega)
    rw [e1, e2]
    clear e1 e2
    go_enter Try.func66, Try.ntmps66
    go_wp2
    go_ret2
    exact ⟨rfl, rfl⟩
  · have e1 : arN op = 0 := by unfold arN; rw [if_pos (by omega), if_pos k]
    have e2 : arB op = true := by unfold arB; exact decide_eq_true (by omega)
    have k2 : ¬ 17 < op := by omega
    rw [e1, e2]
    clear e1 e2
    go_enter Try.func66, Try.ntmps66
    go_wp2
    go_ret2
    exact ⟨rfl, rfl⟩
  · have e1 : arN op = 1 := by unfold arN; rw [if_pos (by omega), if_neg (by omega), if_pos k]
    have e2 : arB op = true := by unfold arB; exact decide_eq_true (by omega)
    have k2 : ¬ 17 < op := by omega
    have k3 : ¬ op < 1 := by omega
    have k4 : ¬ op ≤ 4 := by omega
    rw [e1, e2]
    clear e1 e2
    go_enter Try.func66, Try.ntmps66
    go_wp2
    go_ret2
    exact ⟨rfl, rfl⟩
  · have e1 : arN op = 2 := by unfold arN; rw [if_pos (by omega), if_neg (by omega), if_neg (by omega), if_pos k]
    have e2 : arB op = true := by unfold arB; exact decide_eq_true (by omega)
    have k2 : ¬ 17 < op := by omega
    have k3 : ¬ op < 1 := by omega
    have k4 : ¬ op ≤ 4 := by omega
    have k5 : ¬ op ≤ 8 := by omega
    rw [e1, e2]
    clear e1 e2
    go_enter Try.func66, Try.ntmps66
    go_wp2
    go_ret2
    exact ⟨rfl, rfl⟩
  · subst h
    rw [show arN 17 = 3 by decide, show arB 17 = true by decide]
    go_enter Try.func66, Try.ntmps66
    go_wp2
    go_ret2
    exact ⟨rfl, rfl⟩
  · have e1 : arN op = 0 := by unfold arN; rw [if_neg (by omega)]
    have e2 : arB op = false := by unfold arB; exact decide_eq_false (by omega)
    have k3 : ¬ op < 1 := by omega
    rw [e1, e2]
    clear e1 e2
    go_enter Try.func66, Try.ntmps66
    go_wp2
    go_ret2
    exact ⟨rfl, rfl⟩
set_option maxRecDepth 100000 in
theorem fref_any (W : World) (a b c : Int) : Calls Try.prog 67 #[.agg #[.int .i64 a, .int .i64 b, .int .i64 c]] W (RetV (.agg #[.int .i64 b, .int .i64 c]) W) := by
  go_enter Try.func67, Try.ntmps67
  go_wp2
  (try simp only [Exit.inBlock, Exit.then])
  refine bodyPost_ret (v := .agg #[.int .i64 b, .int .i64 c]) (by rw [results_cell1 rfl]; go_simp) rfl ⟨rfl, ?_⟩
  exact gb_al (gb_al (gb_refl _ _))
end Go.Proofs.Ytfjeonoihdgdoaa
