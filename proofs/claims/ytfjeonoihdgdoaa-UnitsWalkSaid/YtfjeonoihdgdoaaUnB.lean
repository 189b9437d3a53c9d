/- Units: a map whose keys are guards, as what it answers; Executes of both sides; no condition. -/
import Derived.Test.YtfjeonoihdgdoaaUnA
namespace Go.Proofs.Ytfjeonoihdgdoaa
open Go.RowKit
set_option linter.unusedVariables false
theorem gdRow : (80 : TypeId) < Try.prog.types.size := of_decide_eq_true (by kernel_rfl)
theorem gdWide : (match Try.prog.underlying 80 with | some (.array _ _) | some (.struct _) => true | _ => false) = true := by kernel_rfl
set_option maxRecDepth 100000 in
theorem gdLaw : Maps.Keyed Try.prog 80 := Maps.Keyed.of_law (deep_law_laid laidOutAll (m := 2) (by omega) gdRow (by kernel_rfl) gdWide)
theorem gdKT : Try.prog.keyType 80 = true := by kernel_rfl
theorem gdSz : Try.prog.cellsOf 80 = 2 := by kernel_rfl
theorem i64Sz : Try.prog.cellsOf 3 = 1 := by kernel_rfl
theorem boolSz : Try.prog.cellsOf 4 = 1 := by kernel_rfl
theorem gdTS : Try.prog.types.size + 1 = (Try.prog.types.size - 1) + 2 := by kernel_rfl
def gdK (p : Gd) : Value := .agg #[.int .i64 p.1, .bool p.2]
def In64 (u : Int) : Prop := -9223372036854775808 ≤ u ∧ u ≤ 9223372036854775807
theorem gd_key (p : Gd) (h1 : In64 p.1) : ∃ kl, keyOf Try.prog 80 (gdK p) = some kl := by
  have w1 : (Lit.int .i64 p.1).wf = true := by unfold In64 at h1; simp [Lit.wf, IntKind.min, IntKind.max, IntKind.bits, IntKind.signed]; omega
  obtain ⟨f, hf⟩ : ∃ f, Try.prog.types.size + 1 = f + 2 := ⟨_, gdTS⟩
  unfold keyOf gdK
  simp only [Try.underlying80, gdKT, Value.formed, gdSz, hf]
  clear hf
  generalize f = f at *
  simp [Program.keyLits, Try.underlying80, Try.underlying3, Try.underlying4, gdSz, i64Sz, boolSz, Value.cells, w1]
theorem gd_key_inj (p q : Gd) (kl : Lit) (h1 : keyOf Try.prog 80 (gdK p) = some kl) (h2 : keyOf Try.prog 80 (gdK q) = some kl) : p = q := by
  have e := gdLaw.inj h1 h2
  unfold gdK at e
  simp at e
  exact Prod.ext e.1 e.2
/-- Block b is a map from guards to truth values that answers P; it has at most n entries. -/
def MG (w : World) (b : Nat) (P : Gd → Bool) (n : Nat) : Prop := ∃ (D : DataW Unit) (m : Nat), w.ownsMap Try.prog 80 (plainElem Try.prog 4) b m D ∧ m ≤ n ∧
  ∀ p kl, keyOf Try.prog 80 (gdK p) = some kl → D.atKey kl (.lit (.bool false)) = .lit (.bool (P p))
theorem MG.keep {w w2 : World} {row : Option Nat} {b n : Nat} {P : Gd → Bool} (h : MG w b P n) (k : w.grownBy w2 row) (hn : some b ≠ row) : MG w2 b P n := by
  obtain ⟨D, m, h1, h2⟩ := h
  exact ⟨D, m, h1.kept k hn, h2⟩
theorem MG.keep0 {w w2 : World} {b n : Nat} {P : Gd → Bool} (h : MG w b P n) (k : w.grownBy w2 none) : MG w2 b P n := h.keep k (by simp)
theorem MG.lt {w : World} {b n : Nat} {P : Gd → Bool} (h : MG w b P n) : b < w.heap.size := by
  obtain ⟨D, m, h1, h2⟩ := h
  exact h1.lt
theorem MG.new (w : World) : MG (w.alloc (.map #[] 0)) w.heap.size (fun _ => false) 0 :=
  ⟨.map [], 0, World.ownsMap_made w _ _ _, Nat.le_refl _, fun p kl _ => by simp [DataW.atKey]⟩
theorem MG.look {w : World} {b n : Nat} {P : Gd → Bool} (h : MG w b P n) (u : Int) (x : Bool) (h1 : In64 u) : (Instr.lookup 130 (.map (some b)) (.agg #[.int .i64 u, .bool x]) false).run Try.prog w = .ok (.bool (P (u, x))) w := by
  obtain ⟨D, m, o, _, hD⟩ := h
  obtain ⟨kl, hk⟩ := gd_key (u, x) h1
  obtain ⟨y, ps, hr, hx⟩ := o.lookup gdLaw Try.underlying130 (z := .bool false) (by kernel_rfl) (plainElem_bool Try.underlying4 false) hk
  rw [hD _ _ hk] at hx
  have : y = .bool (P (u, x)) := by
    unfold plainElem at hx
    cases y <;> simp [Try.underlying4] at hx
    rw [hx.1]
  subst this
  exact hr
theorem MG.put {w : World} {b n : Nat} {P : Gd → Bool} (h : MG w b P n) (u : Int) (x : Bool) (h1 : In64 u) (hn : n < 100000) : ∃ w', (Instr.mapUpdate 130 (.map (some b)) (.agg #[.int .i64 u, .bool x]) (.bool true)).run Try.prog w = .ok () w' ∧ MG w' b (fun g => P g || decide (g = (u, x))) (n + 1) ∧ w.grownBy w' (some b) := by
  obtain ⟨D, m, o, ho, hD⟩ := h
  obtain ⟨kl, hk⟩ := gd_key (u, x) h1
  obtain ⟨w', hr, o', g⟩ := o.update gdLaw Try.underlying130 (by unfold maxLen; omega) hk (plainElem_bool Try.underlying4 true)
  refine ⟨w', hr, ⟨_, m + 1, o', by omega, ?_⟩, g⟩
  intro p kp hp
  by_cases e : kp = kl
  · subst e
    have := gd_key_inj _ _ _ hk hp
    subst this
    rw [Maps.atKey_put_same o.isMap (gdLaw.key hk)]; simp
  · have hne : p ≠ (u, x) := by
      intro q; subst q; rw [hk] at hp; cases hp; exact e rfl
    rw [Maps.atKey_put_other e, hD _ _ hp]
    simp [hne]

/-- The bit of a unit, false where there is none. -/
def bitO (B : List Bool) (u : Int) : Bool := decide (0 ≤ u ∧ u < (B.length : Int)) && B.getD u.toNat false
/-- All guards are fulfilled. -/
def okG (G : List Gd) (B : List Bool) : Bool := !(G.any fun g => bitO B g.1 != g.2)
def exU (L : List Un) (B : List Bool) (i : Int) : Bool := decide (0 ≤ i ∧ i < (L.length : Int)) && okG (L.getD i.toNat uz).G B
/-- Two units have opposite guards. -/
def opp (G H : List Gd) : Bool := H.any fun h => G.any fun g => decide (g.1 = h.1) && (g.2 != h.2)
def xcU (L : List Un) (i j : Int) : Bool := decide (0 ≤ i ∧ i < (L.length : Int)) && decide (0 ≤ j ∧ j < (L.length : Int)) && opp (L.getD i.toNat uz).G (L.getD j.toNat uz).G
theorem bitO_in {B : List Bool} {u : Nat} (h : u < B.length) : bitO B (u : Int) = B.getD u false := by
  unfold bitO; rw [decide_eq_true (by omega), Int.toNat_natCast, Bool.true_and]
theorem bitO_out {B : List Bool} {u : Int} (h : ¬ (0 ≤ u ∧ u < (B.length : Int))) : bitO B u = false := by
  unfold bitO; rw [decide_eq_false h, Bool.false_and]

set_option maxRecDepth 100000 in
set_option maxHeartbeats 2000000 in
/-- The closure that asks a guard. -/
theorem fails_any (w : World) (bx : Nat) (s : Sl) (B : List Bool) (hb : w.cell? ⟨bx, 0, none⟩ = some (.slice s.a s.n s.c)) (hB : SB w s.a s.n s.c B) (u : Int) (x : Bool) :
    Calls Try.prog 61 #[.agg #[.int .i64 u, .bool x], .pointer (some ⟨bx, 0, none⟩)] w (RetV (.bool (bitO B u != x)) w) := by
  have c1 : ∀ o, (w.alloc o).cell? ⟨bx, 0, none⟩ = some (.slice s.a s.n s.c) := fun o => (gb_alloc w o none).cell hb (by simp)
  have GA := Lib.hid (gb_alloc w (.cells #[.int .i64 u, .bool x] 80) none)
  have HB := Lib.hid (hB.keep0 GA.out)
  have hl := hB.len
  have IX := Lib.hid (fun w => isidx_any w u (s.n : Int))
  clear hb hB
  by_cases hin : 0 ≤ u ∧ u < (s.n : Int)
  · obtain ⟨k, rfl⟩ : ∃ k : Nat, u = (k : Int) := ⟨u.toNat, by omega⟩
    have hk : k < B.length := by omega
    obtain ⟨ad, hsa⟩ := HB.out.some (by omega)
    have c2 := HB.out.cells ad hsa k (by omega)
    have E := Lib.hid (bitO_in hk)
    rw [decide_eq_true hin] at IX
    have i1 : (k : Int) < (s.n : Int) := hin.2
    rw [hsa] at c1
    generalize B.getD k false = y at *
    clear hin hk hl
    go_enter Try.func61, Try.ntmps61
    go_wp2_with fail
    refine (IX.out _).mono ?_
    rintro e w3 ⟨rfl, rfl⟩
    cases x <;> cases y <;> (go_wp2; go_ret; exact ⟨by rw [E.out]; rfl, GA.out⟩)
  · have E := Lib.hid (bitO_out (B := B) (u := u) (by rw [hl]; exact hin))
    rw [decide_eq_false hin] at IX
    clear hin hl
    go_enter Try.func61, Try.ntmps61
    go_wp2_with fail
    refine (IX.out _).mono ?_
    rintro e w3 ⟨rfl, rfl⟩
    cases x <;> (go_wp2; go_ret; exact ⟨by rw [E.out]; rfl, GA.out⟩)
end Go.Proofs.Ytfjeonoihdgdoaa
