/- Words for memory that the walks use: blocks known whole, worlds that grow, slices that read as lists; bytes as strings; no condition. -/
import Derived.Test.YtfjeonoihdgdoaaProg
import Derived.Test.YtfjeonoihdgdoaaFrame
import Derived.Test.YtfjeonoihdgdoaaBvPure
import Derived.WalkKit
import Derived.Outline
import Derived.Lib.Hide
import Derived.Deep.QuietTactic
import Derived.BigQuiet
import Derived.Laws.AppendOwnNone
import Derived.WalkLawsBesides
import Derived.StillTailTactics
namespace Go.Proofs.Ytfjeonoihdgdoaa
open Go.RowKit
set_option linter.unusedVariables false

/-- The world has at most new blocks, and draws; what was there stands as it stood. -/
def Gr (W W' : World) : Prop := W'.os = W.os ∧ W'.tape = W.tape ∧ W'.output = W.output ∧ W.heap.size ≤ W'.heap.size ∧ ∀ k, k < W.heap.size → W'.heap[k]? = W.heap[k]?
theorem Gr.refl (W : World) : Gr W W := ⟨rfl, rfl, rfl, Nat.le_refl _, fun _ _ => rfl⟩
theorem Gr.below {W W' : World} (h : Gr W W') : Below W.heap.size W W' := ⟨h.1, h.2.1, h.2.2.1, h.2.2.2.1, h.2.2.2.2⟩
theorem gr_of_below {W W' : World} (h : Below W.heap.size W W') : Gr W W' := ⟨h.os, h.tape, h.output, h.size, h.block⟩
theorem grown_trans {a b c : World} (h : Gr a b) (k : Gr b c) : Gr a c := gr_of_below (h.below.trans (k.below.mono h.below.size))
theorem Gr.alloc {W w' : World} (h : Gr W w') (c : Array Value) (t : TypeId) : Gr W (w'.alloc (.cells c t)) := gr_of_below (h.below.alloc h.below.size _)
theorem ret_b {a b : Bool} (h : a = b) : Ending.returned (.bool a) = .returned (.bool b) := by rw [h]
theorem ret_i {k : IntKind} {a b : Int} (h : a = b) : Ending.returned (.int k a) = .returned (.int k b) := by rw [h]
theorem ret_ib {k : IntKind} {a b : Int} {c d : Bool} (h : a = b) (g : c = d) : Ending.returned (.tuple #[.int k a, .bool c]) = .returned (.tuple #[.int k b, .bool d]) := by rw [h, g]
theorem ret_ii {k k2 : IntKind} {a b c d : Int} (h : a = b) (g : c = d) : Ending.returned (.tuple #[.int k a, .int k2 c]) = .returned (.tuple #[.int k b, .int k2 d]) := by rw [h, g]
/-- Block g holds exactly these cells, of element type t; none is frozen. -/
def IsB (w : World) (g : Nat) (t : TypeId) (cs : Array Value) : Prop := w.heap[g]? = some (.cells cs t (0, 0))
theorem IsB.lt {w : World} {g : Nat} {t : TypeId} {cs : Array Value} (h : IsB w g t cs) : g < w.heap.size := by
  rcases Nat.lt_or_ge g w.heap.size with hl | hl
  · exact hl
  · unfold IsB at h; rw [Array.getElem?_eq_none hl] at h; simp at h
theorem IsB.cell {w : World} {g : Nat} {t : TypeId} {cs : Array Value} (h : IsB w g t cs) (i : Nat) : w.cell? ⟨g, i, none⟩ = cs[i]? := by
  unfold IsB at h; simp [World.cell?, h]
theorem IsB.free {w : World} {g : Nat} {t : TypeId} {cs : Array Value} (h : IsB w g t cs) (i : Nat) : w.frozen? ⟨g, i, none⟩ = false := by
  unfold IsB at h; simp [World.frozen?, h]
theorem IsB.ne {w : World} {g g2 : Nat} {t t2 : TypeId} {cs cs2 : Array Value} (h : IsB w g t cs) (h2 : IsB w g2 t2 cs2) (hn : t ≠ t2) : g ≠ g2 := by
  intro e; subst e
  unfold IsB at h h2; rw [h] at h2; simp at h2; exact hn h2.2
theorem IsB.keep {w w2 : World} {row : Option Nat} {g : Nat} {t : TypeId} {cs : Array Value} (h : IsB w g t cs) (k : w.grownBy w2 row) (hn : some g ≠ row) : IsB w2 g t cs :=
  (k.block g h.lt hn).trans h
theorem IsB.keep0 {w w2 : World} {g : Nat} {t : TypeId} {cs : Array Value} (h : IsB w g t cs) (k : w.grownBy w2 none) : IsB w2 g t cs := h.keep k (by simp)
theorem IsB.keepS {w w2 : World} {s g : Nat} {t t2 : TypeId} {cs cs2 : Array Value} (h : IsB w g t cs) (k : w.grownBy w2 (some s)) (hs : IsB w s t2 cs2) (hn : t ≠ t2) : IsB w2 g t cs :=
  h.keep k (by intro e; injection e with e; exact h.ne hs hn e)
theorem IsB.new (w : World) (t : TypeId) (cs : Array Value) : IsB (w.alloc (.cells cs t)) w.heap.size t cs := by
  show (w.heap.push _)[w.heap.size]? = _; simp
theorem IsB.alloc {w : World} {g : Nat} {t : TypeId} {cs : Array Value} (h : IsB w g t cs) (o : Obj) : IsB (w.alloc o) g t cs := h.keep0 (World.grownBy_alloc w o none)
theorem IsB.set {w : World} {g : Nat} {t : TypeId} {cs : Array Value} (h : IsB w g t cs) (i : Nat) (u : Value) : IsB (w.setCell ⟨g, i, none⟩ u) g t (cs.setIfInBounds i u) := by
  unfold IsB at h ⊢; simp [World.setCell, Array.getElem?_modify, h]
theorem IsB.set_far {w : World} {g g2 : Nat} {t : TypeId} {cs : Array Value} (h : IsB w g t cs) (hn : g ≠ g2) (i : Nat) (u : Value) : IsB (w.setCell ⟨g2, i, none⟩ u) g t cs :=
  (Below.heap_setCell w ⟨g2, i, none⟩ u g hn).trans h
theorem gb_refl (w : World) (row : Option Nat) : w.grownBy w row := World.grownBy.refl w row
theorem gb_trans {a b c : World} {row : Option Nat} (h : a.grownBy b row) (k : b.grownBy c row) : a.grownBy c row :=
  ⟨k.os.trans h.os, k.tape.trans h.tape, k.output.trans h.output, Nat.le_trans h.size k.size, fun i hi hn => (k.block i (Nat.lt_of_lt_of_le hi h.size) hn).trans (h.block i hi hn)⟩
theorem gb_any {a b : World} {row : Option Nat} (h : a.grownBy b none) : a.grownBy b row := ⟨h.os, h.tape, h.output, h.size, fun i hi _ => h.block i hi (by simp)⟩
theorem gb_alloc (w : World) (o : Obj) (row : Option Nat) : w.grownBy (w.alloc o) row := World.grownBy_alloc w o row
theorem gb_set (w : World) (g i : Nat) (u : Value) : w.grownBy (w.setCell ⟨g, i, none⟩ u) (some g) :=
  ⟨rfl, rfl, rfl, by simp [World.setCell], fun k _ hn => Below.heap_setCell _ _ _ _ (fun e => hn (by rw [e]))⟩
theorem gb_new {w w2 : World} {g : Nat} (h : w.grownBy w2 (some g)) (hg : w.heap.size ≤ g) : w.grownBy w2 none :=
  ⟨h.os, h.tape, h.output, h.size, fun i hi _ => h.block i hi (by intro e; injection e with e; omega)⟩
theorem gb_drew (w : World) (row : Option Nat) : w.grownBy w.drew row := ⟨rfl, rfl, rfl, Nat.le_refl _, fun _ _ _ => rfl⟩
theorem gb_drewN (w : World) (n : Nat) (row : Option Nat) : w.grownBy (w.drewN n) row := ⟨rfl, rfl, rfl, Nat.le_refl _, fun _ _ _ => rfl⟩
theorem gb_gr {a b : World} (h : Gr a b) (row : Option Nat) : a.grownBy b row := ⟨h.1, h.2.1, h.2.2.1, h.2.2.2.1, fun i hi _ => h.2.2.2.2 i hi⟩
theorem gr_gb {a b : World} (h : a.grownBy b none) : Gr a b := ⟨h.os, h.tape, h.output, h.size, fun i hi => h.block i hi (by simp)⟩
theorem gb_below {B : Nat} {a b c : World} {row : Option Nat} (h : Below B a b) (k : b.grownBy c row) (hB : B ≤ b.heap.size) (hr : ∀ g, row = some g → B ≤ g) : Below B a c := h.grown k hB hr
theorem own_ne {w : World} {base g : Nat} {e t : TypeId} {size n : Nat} {v : Value} {xs : List Value} {cs : Array Value} (h : w.ownsRow base e size v n xs) (hb : IsB w g t cs) (hn : e ≠ t) : v.ownBlock ≠ some g := by
  rcases h.2 with ⟨rfl, _⟩ | ⟨g1, cap, cur, rfl, _, hh, _⟩
  · simp [Value.ownBlock]
  · intro he
    have e1 : g1 = g := by simpa [Value.ownBlock] using he
    subst e1
    exact IsB.ne (t := e) hh hb hn rfl
theorem own_keep0 {w w2 : World} {base : Nat} {e : TypeId} {size n : Nat} {v : Value} {xs : List Value} (h : w.ownsRow base e size v n xs) (k : w.grownBy w2 none) : w2.ownsRow base e size v n xs := by
  refine h.kept k ?_
  cases v.ownBlock with
  | none => exact .inl rfl
  | some g => exact .inr (by simp)
theorem own_keepS {w w2 : World} {s : Nat} {base : Nat} {e t : TypeId} {size n : Nat} {v : Value} {xs : List Value} {cs : Array Value} (h : w.ownsRow base e size v n xs) (k : w.grownBy w2 (some s)) (hs : IsB w s t cs) (hn : e ≠ t) : w2.ownsRow base e size v n xs :=
  h.kept k (.inr (own_ne h hs hn))
/-- The call returns v, the world grows but for block row, and what it leaves is as Q says. -/
def RetQ (v : Value) (w : World) (row : Option Nat) (Q : World → Prop) (e : Ending) (w' : World) : Prop := e = .returned v ∧ w.grownBy w' row ∧ Q w'
theorem own_shape {w : World} {base : Nat} {e : TypeId} {size n : Nat} {v : Value} {xs : List Value} (h : w.ownsRow base e size v n xs) : ∃ a c, v = .slice a n c := by
  rcases h.2 with ⟨rfl, rfl⟩ | ⟨g, cap, cur, rfl, _⟩
  · exact ⟨_, _, rfl⟩
  · exact ⟨_, _, rfl⟩
theorem own_head {w : World} {base : Nat} {e : TypeId} {size n : Nat} {v : Value} {xs : List Value} (h : w.ownsRow base e size v n xs) (hn : 0 < n) : ∃ g c, v = .slice (some ⟨g, 0, none⟩) n c := by
  rcases h.2 with ⟨rfl, rfl⟩ | ⟨g, cap, cur, rfl, _⟩
  · omega
  · exact ⟨_, _, rfl⟩
theorem own_cell {w : World} {base : Nat} {e : TypeId} {k : IntKind} {g c : Nat} {bs : List Int} (h : w.ownsRow base e 1 (.slice (some ⟨g, 0, none⟩) bs.length c) bs.length (bs.map (Value.int k))) (j : Nat) (hj : j < bs.length) : w.cell? ⟨g, j, none⟩ = some (.int k (bs.getD j 0)) := by
  rw [h.cellAt j (by omega)]
  simp [hj]
theorem infoU8 : (Try.prog.info? 5).map (fun i => (i.zero, i.size, i.bytes)) = some (some (.int .u8 0), 1, 1) := by kernel_rfl
/-- What is known of a slice that is only read: its length, and its cells where it has an address. -/
def SlR (w : World) (a : Option Addr) (n c : Nat) (xs : List Value) : Prop :=
  xs.length = n ∧ (a = none → n = 0 ∧ c = 0) ∧ ∀ ad, a = some ad → ∀ j u, xs[j]? = some u → w.cell? (ad.add j) = some u
theorem SlR.keep0 {w w2 : World} {a : Option Addr} {n c : Nat} {xs : List Value} (h : SlR w a n c xs) (k : w.grownBy w2 none) : SlR w2 a n c xs :=
  ⟨h.1, h.2.1, fun ad e j u hu => k.cell (h.2.2 ad e j u hu) (by simp)⟩
theorem ints_one (k : IntKind) (zs : List Int) : ∀ u ∈ zs.map (Value.int k), u.oneCell' = true := by
  intro u hu; obtain ⟨z, _, rfl⟩ := List.mem_map.1 hu; rfl
theorem own_cap {w : World} {base : Nat} {e : TypeId} {size n c : Nat} {a : Option Addr} {xs : List Value} (h : w.ownsRow base e size (.slice a n c) n xs) : n ≤ c := by
  rcases h.2 with ⟨h1, rfl⟩ | ⟨g, cap, cur, h1, _, _, h2, _⟩
  · omega
  · injection h1 with _ _ hc; omega
theorem cut_cells {w : World} {base : Nat} {e : TypeId} {k : IntKind} {g c q : Nat} {bs : List Int} (h : w.ownsRow base e 1 (.slice (some ⟨g, 0, none⟩) bs.length c) bs.length (bs.map (Value.int k))) :
    ∀ j u, ((bs.drop q).map (Value.int k))[j]? = some u → w.cell? ((if c = q then (⟨g, 0, none⟩ : Addr) else ⟨g, q, none⟩).add j) = some u := by
  intro j u hu
  have hcap := own_cap h
  have hj : j < bs.length - q := by
    have := (List.getElem?_eq_some_iff.1 hu).1
    simpa using this
  have hne : c ≠ q := by omega
  rw [if_neg hne]
  have e1 : ((⟨g, q, none⟩ : Addr).add j) = ⟨g, q + j, none⟩ := by unfold Addr.add; split <;> simp_all
  rw [e1, own_cell h (q + j) (by omega)]
  have hjq : q + j < bs.length := by omega
  rw [← hu, List.getElem?_map, List.getElem?_drop, List.getElem?_eq_getElem hjq]
  simp [hjq]
theorem SlR.below {w w2 : World} {a : Option Addr} {n c : Nat} {xs : List Value} (h : SlR w a n c xs) (k : Below w.heap.size w w2) : SlR w2 a n c xs :=
  ⟨h.1, h.2.1, fun ad e j u hu => by
    have hc := h.2.2 ad e j u hu
    have hlt := World.block_lt_of_cell? w _ hc
    exact (k.cell (p := ad.add j) hlt).trans hc⟩
theorem SlR.cellAt {w : World} {k : IntKind} {ad : Addr} {n c : Nat} {zs : List Int} (h : SlR w (some ad) n c (zs.map (Value.int k))) (j : Nat) (hj : j < zs.length) : w.cell? (ad.add j) = some (.int k (zs.getD j 0)) := by
  refine h.2.2 ad rfl j _ ?_
  simp [hj]
theorem own_low {w : World} {base base2 : Nat} {e : TypeId} {size n : Nat} {v : Value} {xs : List Value} (h : w.ownsRow base e size v n xs) (hb : base2 ≤ base) : w.ownsRow base2 e size v n xs := by
  refine ⟨h.1, ?_⟩
  rcases h.2 with k | ⟨g, cap, cur, k1, k2, k3⟩
  · exact .inl k
  · exact .inr ⟨g, cap, cur, k1, Nat.le_trans hb k2, k3⟩
theorem row_slr {k : IntKind} {w : World} {a : Option Addr} {len cap : Nat} {zs : List Int} (h : IsRow k w a len cap zs) : SlR w a len cap ((zs.take len).map (Value.int k)) := by
  rcases h with ⟨rfl, rfl, rfl, rfl⟩ | ⟨x, rfl, hl, hm, hz, hc, hw⟩
  · exact ⟨rfl, fun _ => ⟨rfl, rfl⟩, by simp⟩
  · refine ⟨by simp; omega, by simp, ?_⟩
    intro ad ha j u hu
    injection ha with ha; subst ha
    have hj : j < len := by
      have := (List.getElem?_eq_some_iff.1 hu).1
      simp at this; omega
    rw [hc j (by omega), ← hu]
    simp [hj, show j < zs.length by omega]
theorem own_blk {w : World} {base : Nat} {e : TypeId} {size n g c : Nat} {xs : List Value} (h : w.ownsRow base e size (.slice (some ⟨g, 0, none⟩) n c) n xs) : ∃ cs, IsB w g e cs := by
  rcases h.2 with ⟨h1, _⟩ | ⟨g2, cap, cur, h1, _, hh, _⟩
  · injection h1 with h1; cases h1
  · injection h1 with h1; injection h1 with h1; injection h1 with h1; subst h1; exact ⟨cur, hh⟩
theorem own_far {w : World} {base : Nat} {e : TypeId} {size n g : Nat} {v : Value} {xs : List Value} (h : w.ownsRow base e size v n xs) (hg : g < base) : v.ownBlock ≠ some g := by
  intro e1
  have := (h.lt g e1).1
  omega
theorem own_slr {w : World} {base : Nat} {e : TypeId} {a : Option Addr} {n c : Nat} {xs : List Value} (h : w.ownsRow base e 1 (.slice a n c) n xs) : SlR w a n c xs := by
  refine ⟨by simpa using h.1, ?_, ?_⟩
  · intro ha; subst ha
    rcases h.2 with ⟨k, rfl⟩ | ⟨g, cap, cur, k, _⟩
    · injection k with _ _ kc; exact ⟨rfl, kc⟩
    · injection k with k; cases k
  · intro ad ha j u hu; subst ha
    rcases h.2 with ⟨k, rfl⟩ | ⟨g, cap, cur, k, _⟩
    · injection k with k; cases k
    · injection k with k; injection k with k; subst k
      exact h.cells (g := g) rfl j u hu
/-- The string that bytes make. -/
def strOf (bs : List Int) : ByteArray := bs.foldl (fun r n => r.push (UInt8.ofNat n.toNat)) ByteArray.empty
theorem slr_new (w : World) (k : IntKind) (zs : List Int) (t : TypeId) : SlR (w.alloc (.cells (zs.map (Value.int k)).toArray t)) (some ⟨w.heap.size, 0, none⟩) zs.length zs.length (zs.map (Value.int k)) := by
  refine ⟨by simp, by simp, ?_⟩
  intro ad ha j u hu
  injection ha with ha; subst ha
  have e : ((⟨w.heap.size, 0, none⟩ : Addr).add j) = ⟨w.heap.size, j, none⟩ := by unfold Addr.add; split <;> simp_all
  rw [e, (IsB.new w t _).cell j]
  simpa using hu
theorem SlR.alloc {w : World} {a : Option Addr} {n c : Nat} {xs : List Value} (h : SlR w a n c xs) (o : Obj) : SlR (w.alloc o) a n c xs := h.keep0 (gb_alloc w o none)
theorem slr_two (w : World) (k : IntKind) (x y : Int) (t : TypeId) (g : Nat) (hg : g = w.heap.size) : SlR (w.alloc (.cells #[.int k x, .int k y] t)) (some ⟨g, 0, none⟩) 2 2 ([x, y].map (Value.int k)) := by
  subst hg; exact slr_new w k [x, y] t
theorem gb_of_below {w w2 : World} (k : Below w.heap.size w w2) : w.grownBy w2 none := ⟨k.os, k.tape, k.output, k.size, fun i hi _ => k.block i hi⟩
theorem below_step {B : Nat} {a b c : World} (h : Below B a b) (hB : B ≤ b.heap.size) (k : Below b.heap.size b c) : Below B a c := h.trans (k.mono hB)
theorem made_zero (z : Value) (n : Nat) : (madeCells #[z] n).toList = List.replicate n z := by
  apply List.ext_getElem (by simp [madeCells])
  intro j h1 h2
  simp [madeCells, Nat.mod_one]
theorem own_cell2 {w : World} {base : Nat} {e : TypeId} {k : IntKind} {g c n : Nat} {bs : List Int} (h : w.ownsRow base e 1 (.slice (some ⟨g, 0, none⟩) n c) n (bs.map (Value.int k))) (hl : bs.length = n) (j : Nat) (hj : j < n) : w.cell? ⟨g, j, none⟩ = some (.int k (bs.getD j 0)) := by
  subst hl; exact own_cell h j hj
theorem one_cell (w : World) (t : TypeId) (x : Value) (n : Nat) (hn : n = w.heap.size) : ∀ (j : Nat) (u : Value), ([x] : List Value)[j]? = some u → (w.alloc (.cells #[x] t)).cell? ((⟨n, 0, none⟩ : Addr).add j) = some u := by
  intro j u hj
  subst hn
  match j, hj with
  | 0, hj => simp at hj; subst hj; simp [Addr.add]
theorem one_one (x : Value) (h : x.oneCell' = true) : ∀ u ∈ [x], u.oneCell' = true := by
  intro u hu; simp at hu; subst hu; exact h
theorem alloc_isb {w w2 : World} {cs : Array Value} {t : TypeId} (g : (w.drew.alloc (.cells cs t)).grownBy w2 none) : IsB w2 w.heap.size t cs := (IsB.new w.drew t cs).keep0 g
theorem own_below {w w2 : World} {base : Nat} {e : TypeId} {size n : Nat} {v : Value} {xs : List Value} (h : w.ownsRow base e size v n xs) (k : Below w.heap.size w w2) : w2.ownsRow base e size v n xs := by
  refine ⟨h.1, ?_⟩
  rcases h.2 with q | ⟨g, cap, cur, q1, q2, q3, q4⟩
  · exact .inl q
  · exact .inr ⟨g, cap, cur, q1, q2, (k.block g (IsB.lt (show IsB w g e cur from q3))).trans q3, q4⟩
theorem cell_below {W w : World} {a : Addr} {v : Value} (h : W.cell? a = some v) (k : Below W.heap.size W w) : w.cell? a = some v := by
  have hl := World.block_lt_of_cell? W _ h
  have e := k.block a.block hl
  unfold World.cell? at h ⊢
  rw [e]; exact h
theorem row_wf {k : IntKind} {w : World} {a : Option Addr} {len cap : Nat} {zs : List Int} (h : IsRow k w a len cap zs) : ∀ n ∈ zs.take len, (Lit.int k n).wf = true := by
  intro n hn
  have hn := List.mem_of_mem_take hn
  rcases h with ⟨rfl, rfl, rfl, rfl⟩ | ⟨x, rfl, hl, hm, hz, hc, hw⟩
  · simp at hn
  · exact hw n hn
theorem row_len {k : IntKind} {w : World} {a : Option Addr} {len cap : Nat} {zs : List Int} (h : IsRow k w a len cap zs) : (zs.take len).length = len := by
  rcases h with ⟨rfl, rfl, rfl, rfl⟩ | ⟨x, rfl, hl, hm, hz, hc, hw⟩
  · rfl
  · simp; omega
theorem u8_bd {a : Int} (h : (Lit.int .u8 a).wf = true) : 0 ≤ a ∧ a ≤ 255 := by
  have := bounds_u8 h
  omega
end Go.Proofs.Ytfjeonoihdgdoaa
