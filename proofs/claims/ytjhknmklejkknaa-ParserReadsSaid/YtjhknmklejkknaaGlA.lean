/- Several texts in one: BvPure, Mem, BvA, BvB, BvC, BvPureB, BvR, BvS, BvT, BvU, BvV, BvW. -/
import Derived.WalkKit
import Derived.Test.YtjhknmklejkknaaProg
import Derived.Test.YtjhknmklejkknaaFrame
import Derived.Outline
import Derived.Lib.Hide
import Derived.Deep.QuietTactic
import Derived.BigQuiet
import Derived.Laws.AppendOwnNone
import Derived.WalkLawsBesides
import Derived.StillTailTactics
import Derived.Deep.RegionWith
import Derived.Deep.RegionHeld3
section
namespace Go.Proofs.Ytjhknmklejkknaa
open Go.RowKit

def okW (w : Int) : Bool := decide (1 ≤ w ∧ w ≤ 32)
def mkB (w : Int) : Int := if 1 ≤ w ∧ w ≤ 32 then 2 ^ w.toNat - 1 else 0
def fitsB (v w : Int) : Bool := decide (1 ≤ w ∧ w ≤ 32 ∧ v < 2 ^ w.toNat)
/-- A number from 1 to 32 is one of them. -/
theorem width_cases (P : Int → Prop) (h : ∀ k : Fin 32, P ((k.val : Int) + 1)) (w : Int) (h1 : 1 ≤ w) (h2 : w ≤ 32) : P w := by
  have e : w = (((w - 1).toNat : Int) + 1) := by omega
  rw [e]
  exact h ⟨(w - 1).toNat, by omega⟩

theorem pow_pos' (n : Nat) : (0 : Int) < 2 ^ n := Int.pow_pos (by decide)
theorem pow_mono (a b : Nat) (h : a ≤ b) : (2 : Int) ^ a ≤ 2 ^ b := by
  have := Nat.pow_le_pow_right (n := 2) (by decide) h
  exact_mod_cast this
theorem pow_le32 (w : Int) (h2 : w ≤ 32) : (2 : Int) ^ w.toNat ≤ 4294967296 := by
  have h := pow_mono w.toNat 32 (by omega)
  simpa using h
theorem mkB_in (w : Int) (h : 1 ≤ w ∧ w ≤ 32) : mkB w = 2 ^ w.toNat - 1 := by simp [mkB, h]
theorem mkB_out (w : Int) (h : ¬ (1 ≤ w ∧ w ≤ 32)) : mkB w = 0 := by unfold mkB; rw [if_neg h]
theorem wrap32_u (a : Int) : IntKind.u32.wrap a = a % 4294967296 := by simp [IntKind.wrap, IntKind.bits, IntKind.signed]
theorem wraps_u32 (n : Int) (h₀ : 0 ≤ n) (h₁ : n < 2 ^ 32) : IntKind.u32.wrap n = n := by
  rw [wrap32_u]; simp at h₁; omega
/-- The mask as the code makes it: all ones, shifted right. -/
theorem mask_shr (w : Int) (h : 1 ≤ w ∧ w ≤ 32) : (4294967295 : Int) / 2 ^ (32 - w).toNat = mkB w := by
  refine width_cases (fun w => (4294967295 : Int) / 2 ^ (32 - w).toNat = mkB w) ?_ w h.1 h.2
  decide +kernel

theorem fits_in (v w : Int) (h : 1 ≤ w ∧ w ≤ 32) : decide (v ≤ mkB w) = fitsB v w := by
  rw [mkB_in w h]; unfold fitsB; rw [decide_eq_decide]; omega
theorem fits_out (v w : Int) (h : ¬ (1 ≤ w ∧ w ≤ 32)) : false = fitsB v w := by
  unfold fitsB; symm; rw [decide_eq_false_iff_not]; omega
/-- Powers of two, behind a name. -/
def pw (n : Nat) : Int := 2 ^ n
theorem pw_pos (n : Nat) : 1 ≤ pw n := by have := pow_pos' n; unfold pw; omega
theorem pw_succ (n : Nat) : 2 * pw n = pw (n + 1) := by unfold pw; rw [Int.pow_succ]; omega
theorem pw_le62 (n : Nat) (h : n ≤ 62) : pw n ≤ 4611686018427387904 := by
  have := pow_mono n 62 h
  unfold pw; simpa using this
end Go.Proofs.Ytjhknmklejkknaa
end
section
namespace Go.Proofs.Ytjhknmklejkknaa
open Go.RowKit
set_option linter.unusedVariables false

/-- The world has at most new blocks, and draws; what was there stands as it stood. -/
def Gr (W W' : World) : Prop := W'.os = W.os ∧ W'.tape = W.tape ∧ W'.output = W.output ∧ W.heap.size ≤ W'.heap.size ∧ ∀ k, k < W.heap.size → W'.heap[k]? = W.heap[k]?
theorem Gr.refl (W : World) : Gr W W := ⟨rfl, rfl, rfl, Nat.le_refl _, fun _ _ => rfl⟩
theorem Gr.below {W W' : World} (h : Gr W W') : Below W.heap.size W W' := ⟨h.1, h.2.1, h.2.2.1, h.2.2.2.1, h.2.2.2.2⟩
theorem gr_of_below {W W' : World} (h : Below W.heap.size W W') : Gr W W' := ⟨h.os, h.tape, h.output, h.size, h.block⟩
theorem grown_trans {a b c : World} (h : Gr a b) (k : Gr b c) : Gr a c := gr_of_below (h.below.trans (k.below.mono h.below.size))
theorem Gr.alloc {W w' : World} (h : Gr W w') (c : Array Value) (t : TypeId) : Gr W (w'.alloc (.cells c t)) := gr_of_below (h.below.alloc h.below.size _)
theorem ret_b {a b : Bool} (h : a = b) : Ending.returned (.bool a) = .returned (.bool b) := by rw [h]
theorem ret_i {k : IntKind} {a b : Int} (h : a = b) : Ending.returned (.int k a) = .returned (.int k b) := by rw [h]
theorem ret_ii {k k2 : IntKind} {a b c d : Int} (h : a = b) (g : c = d) : Ending.returned (.tuple #[.int k a, .int k2 c]) = .returned (.tuple #[.int k b, .int k2 d]) := by rw [h, g]
/-- Block g holds exactly these cells, of element type t; none is frozen. -/
def IsB (w : World) (g : Nat) (t : TypeId) (cs : Array Value) : Prop := w.heap[g]? = some (.cells cs t (0, 0))
theorem IsB.lt {w : World} {g : Nat} {t : TypeId} {cs : Array Value} (h : IsB w g t cs) : g < w.heap.size := by
  rcases Nat.lt_or_ge g w.heap.size with hl | hl
  · exact hl
  · unfold IsB at h; rw [Array.getElem?_eq_none hl] at h; simp at h
theorem IsB.cell {w : World} {g : Nat} {t : TypeId} {cs : Array Value} (h : IsB w g t cs) (i : Nat) : w.cell? ⟨g, i, none⟩ = cs[i]? := by
  unfold IsB at h; simp [World.cell?, h]
theorem IsB.free {w : World} {g : Nat} {t : TypeId} {cs : Array Value} (h : IsB w g t cs) (i : Nat) : w.frozen? ⟨g, i, none⟩ = false := by
  unfold IsB at h; simp [World.frozen?, h]
theorem IsB.ne {w : World} {g g2 : Nat} {t t2 : TypeId} {cs cs2 : Array Value} (h : IsB w g t cs) (h2 : IsB w g2 t2 cs2) (hn : t ≠ t2) : g ≠ g2 := by
  intro e; subst e
  unfold IsB at h h2; rw [h] at h2; simp at h2; exact hn h2.2
theorem IsB.keep {w w2 : World} {row : Option Nat} {g : Nat} {t : TypeId} {cs : Array Value} (h : IsB w g t cs) (k : w.grownBy w2 row) (hn : some g ≠ row) : IsB w2 g t cs :=
  (k.block g h.lt hn).trans h
theorem IsB.keep0 {w w2 : World} {g : Nat} {t : TypeId} {cs : Array Value} (h : IsB w g t cs) (k : w.grownBy w2 none) : IsB w2 g t cs := h.keep k (by simp)
theorem IsB.keepS {w w2 : World} {s g : Nat} {t t2 : TypeId} {cs cs2 : Array Value} (h : IsB w g t cs) (k : w.grownBy w2 (some s)) (hs : IsB w s t2 cs2) (hn : t ≠ t2) : IsB w2 g t cs :=
  h.keep k (by intro e; injection e with e; exact h.ne hs hn e)
theorem IsB.new (w : World) (t : TypeId) (cs : Array Value) : IsB (w.alloc (.cells cs t)) w.heap.size t cs := by
  show (w.heap.push _)[w.heap.size]? = _; simp
theorem IsB.alloc {w : World} {g : Nat} {t : TypeId} {cs : Array Value} (h : IsB w g t cs) (o : Obj) : IsB (w.alloc o) g t cs := h.keep0 (World.grownBy_alloc w o none)
theorem IsB.set {w : World} {g : Nat} {t : TypeId} {cs : Array Value} (h : IsB w g t cs) (i : Nat) (u : Value) : IsB (w.setCell ⟨g, i, none⟩ u) g t (cs.setIfInBounds i u) := by
  unfold IsB at h ⊢; simp [World.setCell, Array.getElem?_modify, h]
theorem IsB.set_far {w : World} {g g2 : Nat} {t : TypeId} {cs : Array Value} (h : IsB w g t cs) (hn : g ≠ g2) (i : Nat) (u : Value) : IsB (w.setCell ⟨g2, i, none⟩ u) g t cs :=
  (Below.heap_setCell w ⟨g2, i, none⟩ u g hn).trans h
theorem gb_refl (w : World) (row : Option Nat) : w.grownBy w row := World.grownBy.refl w row
theorem gb_trans {a b c : World} {row : Option Nat} (h : a.grownBy b row) (k : b.grownBy c row) : a.grownBy c row :=
  ⟨k.os.trans h.os, k.tape.trans h.tape, k.output.trans h.output, Nat.le_trans h.size k.size, fun i hi hn => (k.block i (Nat.lt_of_lt_of_le hi h.size) hn).trans (h.block i hi hn)⟩
theorem gb_any {a b : World} {row : Option Nat} (h : a.grownBy b none) : a.grownBy b row := ⟨h.os, h.tape, h.output, h.size, fun i hi _ => h.block i hi (by simp)⟩
theorem gb_alloc (w : World) (o : Obj) (row : Option Nat) : w.grownBy (w.alloc o) row := World.grownBy_alloc w o row
theorem gb_set (w : World) (g i : Nat) (u : Value) : w.grownBy (w.setCell ⟨g, i, none⟩ u) (some g) :=
  ⟨rfl, rfl, rfl, by simp [World.setCell], fun k _ hn => Below.heap_setCell _ _ _ _ (fun e => hn (by rw [e]))⟩
theorem gb_new {w w2 : World} {g : Nat} (h : w.grownBy w2 (some g)) (hg : w.heap.size ≤ g) : w.grownBy w2 none :=
  ⟨h.os, h.tape, h.output, h.size, fun i hi _ => h.block i hi (by intro e; injection e with e; omega)⟩
theorem gb_drew (w : World) (row : Option Nat) : w.grownBy w.drew row := ⟨rfl, rfl, rfl, Nat.le_refl _, fun _ _ _ => rfl⟩
theorem gb_drewN (w : World) (n : Nat) (row : Option Nat) : w.grownBy (w.drewN n) row := ⟨rfl, rfl, rfl, Nat.le_refl _, fun _ _ _ => rfl⟩
theorem gb_gr {a b : World} (h : Gr a b) (row : Option Nat) : a.grownBy b row := ⟨h.1, h.2.1, h.2.2.1, h.2.2.2.1, fun i hi _ => h.2.2.2.2 i hi⟩
theorem gb_below {B : Nat} {a b c : World} {row : Option Nat} (h : Below B a b) (k : b.grownBy c row) (hB : B ≤ b.heap.size) (hr : ∀ g, row = some g → B ≤ g) : Below B a c := h.grown k hB hr
theorem own_ne {w : World} {base g : Nat} {e t : TypeId} {size n : Nat} {v : Value} {xs : List Value} {cs : Array Value} (h : w.ownsRow base e size v n xs) (hb : IsB w g t cs) (hn : e ≠ t) : v.ownBlock ≠ some g := by
  rcases h.2 with ⟨rfl, _⟩ | ⟨g1, cap, cur, rfl, _, hh, _⟩
  · simp [Value.ownBlock]
  · intro he
    have e1 : g1 = g := by simpa [Value.ownBlock] using he
    subst e1
    exact IsB.ne (t := e) hh hb hn rfl
theorem own_keep0 {w w2 : World} {base : Nat} {e : TypeId} {size n : Nat} {v : Value} {xs : List Value} (h : w.ownsRow base e size v n xs) (k : w.grownBy w2 none) : w2.ownsRow base e size v n xs := by
  refine h.kept k ?_
  cases v.ownBlock with
  | none => exact .inl rfl
  | some g => exact .inr (by simp)
theorem own_keepS {w w2 : World} {s : Nat} {base : Nat} {e t : TypeId} {size n : Nat} {v : Value} {xs : List Value} {cs : Array Value} (h : w.ownsRow base e size v n xs) (k : w.grownBy w2 (some s)) (hs : IsB w s t cs) (hn : e ≠ t) : w2.ownsRow base e size v n xs :=
  h.kept k (.inr (own_ne h hs hn))
/-- The call returns v, the world grows but for block row, and what it leaves is as Q says. -/
def RetQ (v : Value) (w : World) (row : Option Nat) (Q : World → Prop) (e : Ending) (w' : World) : Prop := e = .returned v ∧ w.grownBy w' row ∧ Q w'
theorem own_shape {w : World} {base : Nat} {e : TypeId} {size n : Nat} {v : Value} {xs : List Value} (h : w.ownsRow base e size v n xs) : ∃ a c, v = .slice a n c := by
  rcases h.2 with ⟨rfl, rfl⟩ | ⟨g, cap, cur, rfl, _⟩
  · exact ⟨_, _, rfl⟩
  · exact ⟨_, _, rfl⟩
theorem own_head {w : World} {base : Nat} {e : TypeId} {size n : Nat} {v : Value} {xs : List Value} (h : w.ownsRow base e size v n xs) (hn : 0 < n) : ∃ g c, v = .slice (some ⟨g, 0, none⟩) n c := by
  rcases h.2 with ⟨rfl, rfl⟩ | ⟨g, cap, cur, rfl, _⟩
  · omega
  · exact ⟨_, _, rfl⟩
theorem own_cell {w : World} {base : Nat} {e : TypeId} {k : IntKind} {g c : Nat} {bs : List Int} (h : w.ownsRow base e 1 (.slice (some ⟨g, 0, none⟩) bs.length c) bs.length (bs.map (Value.int k))) (j : Nat) (hj : j < bs.length) : w.cell? ⟨g, j, none⟩ = some (.int k (bs.getD j 0)) := by
  rw [h.cellAt j (by omega)]
  simp [hj]
theorem infoU8 : (Try.prog.info? 5).map (fun i => (i.zero, i.size, i.bytes)) = some (some (.int .u8 0), 1, 1) := by kernel_rfl
/-- What is known of a slice that is only read: its length, and its cells where it has an address. -/
def SlR (w : World) (a : Option Addr) (n c : Nat) (xs : List Value) : Prop :=
  xs.length = n ∧ (a = none → n = 0 ∧ c = 0) ∧ ∀ ad, a = some ad → ∀ j u, xs[j]? = some u → w.cell? (ad.add j) = some u
theorem SlR.keep0 {w w2 : World} {a : Option Addr} {n c : Nat} {xs : List Value} (h : SlR w a n c xs) (k : w.grownBy w2 none) : SlR w2 a n c xs :=
  ⟨h.1, h.2.1, fun ad e j u hu => k.cell (h.2.2 ad e j u hu) (by simp)⟩
theorem ints_one (k : IntKind) (zs : List Int) : ∀ u ∈ zs.map (Value.int k), u.oneCell' = true := by
  intro u hu; obtain ⟨z, _, rfl⟩ := List.mem_map.1 hu; rfl
theorem own_cap {w : World} {base : Nat} {e : TypeId} {size n c : Nat} {a : Option Addr} {xs : List Value} (h : w.ownsRow base e size (.slice a n c) n xs) : n ≤ c := by
  rcases h.2 with ⟨h1, rfl⟩ | ⟨g, cap, cur, h1, _, _, h2, _⟩
  · omega
  · injection h1 with _ _ hc; omega
theorem cut_cells {w : World} {base : Nat} {e : TypeId} {k : IntKind} {g c q : Nat} {bs : List Int} (h : w.ownsRow base e 1 (.slice (some ⟨g, 0, none⟩) bs.length c) bs.length (bs.map (Value.int k))) :
    ∀ j u, ((bs.drop q).map (Value.int k))[j]? = some u → w.cell? ((if c = q then (⟨g, 0, none⟩ : Addr) else ⟨g, q, none⟩).add j) = some u := by
  intro j u hu
  have hcap := own_cap h
  have hj : j < bs.length - q := by
    have := (List.getElem?_eq_some_iff.1 hu).1
    simpa using this
  have hne : c ≠ q := by omega
  rw [if_neg hne]
  have e1 : ((⟨g, q, none⟩ : Addr).add j) = ⟨g, q + j, none⟩ := by unfold Addr.add; split <;> simp_all
  rw [e1, own_cell h (q + j) (by omega)]
  have hjq : q + j < bs.length := by omega
  rw [← hu, List.getElem?_map, List.getElem?_drop, List.getElem?_eq_getElem hjq]
  simp [hjq]
theorem SlR.below {w w2 : World} {a : Option Addr} {n c : Nat} {xs : List Value} (h : SlR w a n c xs) (k : Below w.heap.size w w2) : SlR w2 a n c xs :=
  ⟨h.1, h.2.1, fun ad e j u hu => by
    have hc := h.2.2 ad e j u hu
    have hlt := World.block_lt_of_cell? w _ hc
    exact (k.cell (p := ad.add j) hlt).trans hc⟩
theorem SlR.cellAt {w : World} {k : IntKind} {ad : Addr} {n c : Nat} {zs : List Int} (h : SlR w (some ad) n c (zs.map (Value.int k))) (j : Nat) (hj : j < zs.length) : w.cell? (ad.add j) = some (.int k (zs.getD j 0)) := by
  refine h.2.2 ad rfl j _ ?_
  simp [hj]
theorem own_low {w : World} {base base2 : Nat} {e : TypeId} {size n : Nat} {v : Value} {xs : List Value} (h : w.ownsRow base e size v n xs) (hb : base2 ≤ base) : w.ownsRow base2 e size v n xs := by
  refine ⟨h.1, ?_⟩
  rcases h.2 with k | ⟨g, cap, cur, k1, k2, k3⟩
  · exact .inl k
  · exact .inr ⟨g, cap, cur, k1, Nat.le_trans hb k2, k3⟩
theorem own_blk {w : World} {base : Nat} {e : TypeId} {size n g c : Nat} {xs : List Value} (h : w.ownsRow base e size (.slice (some ⟨g, 0, none⟩) n c) n xs) : ∃ cs, IsB w g e cs := by
  rcases h.2 with ⟨h1, _⟩ | ⟨g2, cap, cur, h1, _, hh, _⟩
  · injection h1 with h1; cases h1
  · injection h1 with h1; injection h1 with h1; injection h1 with h1; subst h1; exact ⟨cur, hh⟩
theorem own_slr {w : World} {base : Nat} {e : TypeId} {a : Option Addr} {n c : Nat} {xs : List Value} (h : w.ownsRow base e 1 (.slice a n c) n xs) : SlR w a n c xs := by
  refine ⟨by simpa using h.1, ?_, ?_⟩
  · intro ha; subst ha
    rcases h.2 with ⟨k, rfl⟩ | ⟨g, cap, cur, k, _⟩
    · injection k with _ _ kc; exact ⟨rfl, kc⟩
    · injection k with k; cases k
  · intro ad ha j u hu; subst ha
    rcases h.2 with ⟨k, rfl⟩ | ⟨g, cap, cur, k, _⟩
    · injection k with k; cases k
    · injection k with k; injection k with k; subst k
      exact h.cells (g := g) rfl j u hu
/-- The string that bytes make. -/
def strOf (bs : List Int) : ByteArray := bs.foldl (fun r n => r.push (UInt8.ofNat n.toNat)) ByteArray.empty
theorem SlR.alloc {w : World} {a : Option Addr} {n c : Nat} {xs : List Value} (h : SlR w a n c xs) (o : Obj) : SlR (w.alloc o) a n c xs := h.keep0 (gb_alloc w o none)
theorem gb_of_below {w w2 : World} (k : Below w.heap.size w w2) : w.grownBy w2 none := ⟨k.os, k.tape, k.output, k.size, fun i hi _ => k.block i hi⟩
theorem made_zero (z : Value) (n : Nat) : (madeCells #[z] n).toList = List.replicate n z := by
  apply List.ext_getElem (by simp [madeCells])
  intro j h1 h2
  simp [madeCells, Nat.mod_one]
theorem own_cell2 {w : World} {base : Nat} {e : TypeId} {k : IntKind} {g c n : Nat} {bs : List Int} (h : w.ownsRow base e 1 (.slice (some ⟨g, 0, none⟩) n c) n (bs.map (Value.int k))) (hl : bs.length = n) (j : Nat) (hj : j < n) : w.cell? ⟨g, j, none⟩ = some (.int k (bs.getD j 0)) := by
  subst hl; exact own_cell h j hj
theorem one_one (x : Value) (h : x.oneCell' = true) : ∀ u ∈ [x], u.oneCell' = true := by
  intro u hu; simp at hu; subst hu; exact h
theorem u8_bd {a : Int} (h : (Lit.int .u8 a).wf = true) : 0 ≤ a ∧ a ≤ 255 := by
  have := bounds_u8 h
  omega
end Go.Proofs.Ytjhknmklejkknaa
end
section
namespace Go.Proofs.Ytjhknmklejkknaa
open Go.RowKit

/-- The call returns v; the world has at most new blocks. -/
def Ret (v : Value) (W : World) (e : Ending) (w' : World) : Prop := e = .returned v ∧ Gr W w'
theorem valid_no (ws : List Int) (k : Nat) (x : Int) (hk : k < ws.length) (hx : ws.getD k 0 = x) (h : ¬ (1 ≤ x ∧ x ≤ 32)) : ws.all okW = false := by
  rw [List.all_eq_false]
  refine ⟨ws[k], List.getElem_mem hk, ?_⟩
  have e : ws[k] = x := by rw [← hx]; simp [hk]
  rw [e]; simp [okW]; omega
theorem valid_step (ws : List Int) (k : Nat) (x : Int) (hx : ws.getD k 0 = x) (h : 1 ≤ x ∧ x ≤ 32) (ha : ∀ j : Nat, j < k → okW (ws.getD j 0) = true) :
    ∀ j : Nat, j < k + 1 → okW (ws.getD j 0) = true := by
  intro j hj
  by_cases e : j = k
  · rw [e, hx]; simp [okW, h]
  · exact ha j (by omega)
theorem valid_yes (ws : List Int) (k : Nat) (hk : ws.length ≤ k) (ha : ∀ j : Nat, j < k → okW (ws.getD j 0) = true) : ws.all okW = true := by
  rw [List.all_eq_true]
  intro x hx
  obtain ⟨j, hj, rfl⟩ := List.mem_iff_getElem.1 hx
  have := ha j (by omega)
  simpa [hj] using this

theorem valid_any (ws : List Int) (b : Nat) (w : World) (hlen : ws.length ≤ 1000)
    (hc : ∀ i : Nat, i < ws.length → w.cell? ⟨b, i, none⟩ = some (.int .i64 (ws.getD i 0))) :
    Calls Try.prog 128 #[.slice (some ⟨b, 0, none⟩) ws.length ws.length] w fun e w' => e = .returned (.bool (ws.all okW)) ∧ w = w' := by
  go_enter Try.func128, Try.ntmps128
  go_wp2
  go_loop [7] (fun i => ∃ k : Nat, k ≤ ws.length ∧ (∀ j : Nat, j < k → okW (ws.getD j 0) = true) ∧ i = .int .i64 k) (fun i => ws.length - (intOf i).toNat)
  case atStart => exact ⟨0, Nat.zero_le _, fun j hj => absurd hj (Nat.not_lt_zero _), rfl⟩
  case round =>
    obtain ⟨k, hk, hall, rfl⟩ := hrel
    have Hall := Lib.hid hall
    clear hall
    have Hc := Lib.hid hc
    clear hc
    by_cases hlt : k < ws.length
    · obtain ⟨x, hx⟩ : ∃ x, ws.getD k 0 = x := ⟨_, rfl⟩
      have hcell := Hc.out k hlt
      rw [hx] at hcell
      have HX := Lib.hid hx
      clear hx
      by_cases h1 : x < 1
      · go_wp2
        go_ret
        exact ⟨ret_b (valid_no ws k x hlt HX.out (by omega)).symm, rfl⟩
      · by_cases h2 : 32 < x
        · go_wp2
          go_ret
          exact ⟨ret_b (valid_no ws k x hlt HX.out (by omega)).symm, rfl⟩
        · go_wp2
          go_round
          case rel => exact ⟨k + 1, by omega, valid_step ws k x HX.out (by omega) Hall.out, by go_num⟩
          case measure => simp [intOf]; omega
    · go_wp2
      go_ret
      exact ⟨ret_b (valid_yes ws k (by omega) Hall.out).symm, rfl⟩
theorem cell1 (W : World) (x : Value) (t : TypeId) : ∀ i : Nat, i < 1 → (W.alloc (.cells #[x] t)).cell? ⟨W.heap.size, i, none⟩ = some x := by
  intro i hi
  obtain rfl : i = 0 := by omega
  simp [go_sem]

theorem valid1_yes (x : Int) (b : Nat) (w : World) (h : 1 ≤ x ∧ x ≤ 32) (hc : w.cell? ⟨b, 0, none⟩ = some (.int .i64 x)) :
    Calls Try.prog 128 #[.slice (some ⟨b, 0, none⟩) 1 1] w fun e w' => e = .returned (.bool true) ∧ w = w' := by
  have k := valid_any [x] b w (by simp) (by intro i hi; simp at hi; subst hi; simpa using hc)
  refine k.mono ?_
  rintro e w' ⟨rfl, rfl⟩
  exact ⟨ret_b (by simp [okW, h]), rfl⟩
theorem valid1_no (x : Int) (b : Nat) (w : World) (h : ¬ (1 ≤ x ∧ x ≤ 32)) (hc : w.cell? ⟨b, 0, none⟩ = some (.int .i64 x)) :
    Calls Try.prog 128 #[.slice (some ⟨b, 0, none⟩) 1 1] w fun e w' => e = .returned (.bool false) ∧ w = w' := by
  have k := valid_any [x] b w (by simp) (by intro i hi; simp at hi; subst hi; simpa using hc)
  refine k.mono ?_
  rintro e w' ⟨rfl, rfl⟩
  exact ⟨ret_b (by simp only [okW, List.all_cons, List.all_nil, Bool.and_true]; exact decide_eq_false h), rfl⟩
theorem mask_any (w : Int) (W : World) :
    Calls Try.prog 129 #[.int .i64 w] W (Ret (.int .u32 (mkB w)) W) := by
  by_cases h : 1 ≤ w ∧ w ≤ 32
  · have HE := Lib.hid (mask_shr w h)
    have HH := Lib.hid h
    obtain ⟨h1, h2⟩ := h
    go_enter Try.func129, Try.ntmps129
    go_wp2_with (go_at_call 128; refine (valid1_yes _ _ _ HH.out (cell1 _ _ _ 0 (by decide))).mono ?_; rintro e w' ⟨rfl, rfl⟩)
    go_ret
    exact ⟨ret_i HE.out, (Gr.refl _).alloc _ _⟩
  · have HH := Lib.hid h
    have HE := Lib.hid (mkB_out w h)
    clear h
    go_enter Try.func129, Try.ntmps129
    go_wp2_with (go_at_call 128; refine (valid1_no _ _ _ HH.out (cell1 _ _ _ 0 (by decide))).mono ?_; rintro e w' ⟨rfl, rfl⟩)
    go_ret
    exact ⟨ret_i HE.out.symm, (Gr.refl _).alloc _ _⟩
end Go.Proofs.Ytjhknmklejkknaa
end
section
namespace Go.Proofs.Ytjhknmklejkknaa
open Go.RowKit

theorem fits_any (v w : Int) (W : World) :
    Calls Try.prog 106 #[.int .u32 v, .int .i64 w] W (Ret (.bool (fitsB v w)) W) := by
  by_cases h : 1 ≤ w ∧ w ≤ 32
  · have HH := Lib.hid h
    have HF := Lib.hid (fits_in v w h)
    clear h
    go_enter Try.func106, Try.ntmps106
    go_wp2_with (first | (go_at_call 128; refine (valid1_yes _ _ _ HH.out (cell1 _ _ _ 0 (by decide))).mono ?_; rintro e w' ⟨rfl, rfl⟩) | (go_at_call 129; refine (mask_any _ _).mono ?_; rintro e w' ⟨rfl, g⟩))
    go_ret
    exact ⟨ret_b HF.out, grown_trans ((Gr.refl _).alloc _ _) g⟩
  · have HH := Lib.hid h
    have HF := Lib.hid (fits_out v w h)
    clear h
    go_enter Try.func106, Try.ntmps106
    go_wp2_with (go_at_call 128; refine (valid1_no _ _ _ HH.out (cell1 _ _ _ 0 (by decide))).mono ?_; rintro e w' ⟨rfl, rfl⟩)
    go_ret
    exact ⟨ret_b HF.out, (Gr.refl _).alloc _ _⟩

end Go.Proofs.Ytjhknmklejkknaa
end
section
namespace Go.Proofs.Ytjhknmklejkknaa
open Go.RowKit

end Go.Proofs.Ytjhknmklejkknaa
end
section
namespace Go.Proofs.Ytjhknmklejkknaa
open Go.RowKit

end Go.Proofs.Ytjhknmklejkknaa
end
section
namespace Go.Proofs.Ytjhknmklejkknaa
open Go.RowKit

theorem rvalid_anyh (w : Int) (W : World) : Calls Try.prog 115 #[.int .i64 w] W fun e w' => e = .returned (.bool (okW w)) ∧ W = w' := by
  by_cases h1 : 1 ≤ w
  · by_cases h2 : w ≤ 32
    · have HS := Lib.hid (show true = okW w by simp [okW, h1, h2])
      go_enter Try.func115, Try.ntmps115
      go_wp2
      go_ret
      exact ⟨ret_b HS.out, rfl⟩
    · have HS := Lib.hid (show false = okW w by simp [okW, h2])
      go_enter Try.func115, Try.ntmps115
      go_wp2
      go_ret
      exact ⟨ret_b HS.out, rfl⟩
  · have HS := Lib.hid (show false = okW w by simp [okW, h1])
    go_enter Try.func115, Try.ntmps115
    go_wp2
    go_ret
    exact ⟨ret_b HS.out, rfl⟩
theorem rvalid_yes (w : Int) (W : World) (h : 1 ≤ w ∧ w ≤ 32) : Calls Try.prog 115 #[.int .i64 w] W fun e w' => e = .returned (.bool true) ∧ W = w' :=
  (rvalid_anyh w W).mono (by rintro e w' ⟨rfl, rfl⟩; exact ⟨ret_b (by simp [okW, h]), rfl⟩)
theorem rvalid_no (w : Int) (W : World) (h : ¬ (1 ≤ w ∧ w ≤ 32)) : Calls Try.prog 115 #[.int .i64 w] W fun e w' => e = .returned (.bool false) ∧ W = w' :=
  (rvalid_anyh w W).mono (by rintro e w' ⟨rfl, rfl⟩; exact ⟨ret_b (decide_eq_false h), rfl⟩)

theorem power_any (n : Int) (W : World) (h0 : 0 ≤ n) (h1 : n ≤ 63) : Calls Try.prog 116 #[.int .i64 n] W fun e w' => e = .returned (.int .u64 (pw n.toNat)) ∧ W = w' := by
  go_enter Try.func116, Try.ntmps116
  go_wp2
  go_loop [3, 4] (fun x i => ∃ k : Nat, k ≤ n.toNat ∧ x = .int .u64 (pw k) ∧ i = .int .i64 k) (fun _ i => n.toNat - (intOf i).toNat)
  case atStart => exact ⟨0, Nat.zero_le _, rfl, rfl⟩
  case round =>
    obtain ⟨k, hk, rfl, rfl⟩ := hrel
    have hp := pw_pos k
    by_cases hlt : (k : Int) < n
    · have hb := pw_le62 k (by omega)
      go_wp2
      go_round
      case rel => exact ⟨k + 1, by omega, by rw [pw_succ], by go_num⟩
      case measure => simp [intOf]; omega
    · go_wp2
      go_ret
      exact ⟨ret_i (by rw [show k = n.toNat by omega]), rfl⟩

theorem rfits_anyh (v w : Int) (W : World) (k0 : 0 ≤ v) (k1 : v < 4294967296) : Calls Try.prog 85 #[.int .u32 v, .int .i64 w] W fun e w' => e = .returned (.bool (fitsB v w)) ∧ W = w' := by
  by_cases h : 1 ≤ w ∧ w ≤ 32
  · have HH := Lib.hid h
    have HS := Lib.hid (show decide (v < pw w.toNat) = fitsB v w by unfold fitsB; rw [decide_eq_decide]; unfold pw; omega)
    obtain ⟨h1, h2⟩ := h
    go_enter Try.func85, Try.ntmps85
    go_wp2_with (first | (go_at_call 115; refine (rvalid_yes _ _ HH.out).mono ?_; rintro e w' ⟨rfl, rfl⟩) | (go_at_call 116; refine (power_any _ _ (by omega) (by omega)).mono ?_; rintro e w' ⟨rfl, rfl⟩))
    go_ret
    exact ⟨ret_b HS.out, rfl⟩
  · have HH := Lib.hid h
    have HS := Lib.hid (fits_out v w h)
    clear h
    go_enter Try.func85, Try.ntmps85
    go_wp2_with (go_at_call 115; refine (rvalid_no _ _ HH.out).mono ?_; rintro e w' ⟨rfl, rfl⟩)
    go_ret
    exact ⟨ret_b HS.out, rfl⟩
end Go.Proofs.Ytjhknmklejkknaa
end
section
namespace Go.Proofs.Ytjhknmklejkknaa
open Go.RowKit

end Go.Proofs.Ytjhknmklejkknaa
end
section
namespace Go.Proofs.Ytjhknmklejkknaa
open Go.RowKit

end Go.Proofs.Ytjhknmklejkknaa
end
section
namespace Go.Proofs.Ytjhknmklejkknaa
open Go.RowKit

end Go.Proofs.Ytjhknmklejkknaa
end
section
namespace Go.Proofs.Ytjhknmklejkknaa
open Go.RowKit

theorem b2 {a b : Int} (h : a = b) : (a == b) = true := by rw [h]; simp
end Go.Proofs.Ytjhknmklejkknaa
end
section
namespace Go.Proofs.Ytjhknmklejkknaa
open Go.RowKit

end Go.Proofs.Ytjhknmklejkknaa
end
