/- Words for memory that the walks of package bitio use: blocks known whole, worlds that grow, slices that read as lists; and the walks of small readers. -/
import Derived.Test.YtgknooblnpmloaaBvW
import Derived.Deep.QuietTactic
import Derived.BigQuiet
import Derived.Laws.AppendOwnNone
import Derived.WalkLawsBesides
namespace Go.Proofs.Ytgknooblnpmloaa
open Go.RowKit

/-- Block g holds exactly these cells, of element type t; none is frozen. -/
def IsB (w : World) (g : Nat) (t : TypeId) (cs : Array Value) : Prop := w.heap[g]? = some (.cells cs t (0, 0))

theorem IsB.lt {w : World} {g : Nat} {t : TypeId} {cs : Array Value} (h : IsB w g t cs) : g < w.heap.size := by
  rcases Nat.lt_or_ge g w.heap.size with hl | hl
  · exact hl
  · unfold IsB at h; rw [Array.getElem?_eq_none hl] at h; simp at h
theorem IsB.cell {w : World} {g : Nat} {t : TypeId} {cs : Array Value} (h : IsB w g t cs) (i : Nat) : w.cell? ⟨g, i, none⟩ = cs[i]? := by
  unfold IsB at h; simp [World.cell?, h]
theorem IsB.free {w : World} {g : Nat} {t : TypeId} {cs : Array Value} (h : IsB w g t cs) (i : Nat) : w.frozen? ⟨g, i, none⟩ = false := by
  unfold IsB at h; simp [World.frozen?, h]
theorem IsB.ne {w : World} {g g2 : Nat} {t t2 : TypeId} {cs cs2 : Array Value} (h : IsB w g t cs) (h2 : IsB w g2 t2 cs2) (hn : t ≠ t2) : g ≠ g2 := by
  intro e; subst e
  unfold IsB at h h2; rw [h] at h2; simp at h2; exact hn h2.2
theorem IsB.keep {w w2 : World} {row : Option Nat} {g : Nat} {t : TypeId} {cs : Array Value} (h : IsB w g t cs) (k : w.grownBy w2 row) (hn : some g ≠ row) : IsB w2 g t cs :=
  (k.block g h.lt hn).trans h
theorem IsB.keep0 {w w2 : World} {g : Nat} {t : TypeId} {cs : Array Value} (h : IsB w g t cs) (k : w.grownBy w2 none) : IsB w2 g t cs := h.keep k (by simp)
theorem IsB.keepS {w w2 : World} {s g : Nat} {t t2 : TypeId} {cs cs2 : Array Value} (h : IsB w g t cs) (k : w.grownBy w2 (some s)) (hs : IsB w s t2 cs2) (hn : t ≠ t2) : IsB w2 g t cs :=
  h.keep k (by intro e; injection e with e; exact h.ne hs hn e)
theorem IsB.new (w : World) (t : TypeId) (cs : Array Value) : IsB (w.alloc (.cells cs t)) w.heap.size t cs := by
  show (w.heap.push _)[w.heap.size]? = _; simp
theorem IsB.alloc {w : World} {g : Nat} {t : TypeId} {cs : Array Value} (h : IsB w g t cs) (o : Obj) : IsB (w.alloc o) g t cs := h.keep0 (World.grownBy_alloc w o none)
theorem IsB.set {w : World} {g : Nat} {t : TypeId} {cs : Array Value} (h : IsB w g t cs) (i : Nat) (u : Value) : IsB (w.setCell ⟨g, i, none⟩ u) g t (cs.setIfInBounds i u) := by
  unfold IsB at h ⊢; simp [World.setCell, Array.getElem?_modify, h]
theorem IsB.set_far {w : World} {g g2 : Nat} {t : TypeId} {cs : Array Value} (h : IsB w g t cs) (hn : g ≠ g2) (i : Nat) (u : Value) : IsB (w.setCell ⟨g2, i, none⟩ u) g t cs :=
  (Below.heap_setCell w ⟨g2, i, none⟩ u g hn).trans h

theorem gb_refl (w : World) (row : Option Nat) : w.grownBy w row := World.grownBy.refl w row
theorem gb_trans {a b c : World} {row : Option Nat} (h : a.grownBy b row) (k : b.grownBy c row) : a.grownBy c row :=
  ⟨k.os.trans h.os, k.tape.trans h.tape, k.output.trans h.output, Nat.le_trans h.size k.size, fun i hi hn => (k.block i (Nat.lt_of_lt_of_le hi h.size) hn).trans (h.block i hi hn)⟩
theorem gb_any {a b : World} {row : Option Nat} (h : a.grownBy b none) : a.grownBy b row := ⟨h.os, h.tape, h.output, h.size, fun i hi _ => h.block i hi (by simp)⟩
theorem gb_alloc (w : World) (o : Obj) (row : Option Nat) : w.grownBy (w.alloc o) row := World.grownBy_alloc w o row
theorem gb_set (w : World) (g i : Nat) (u : Value) : w.grownBy (w.setCell ⟨g, i, none⟩ u) (some g) :=
  ⟨rfl, rfl, rfl, by simp [World.setCell], fun k _ hn => Below.heap_setCell _ _ _ _ (fun e => hn (by rw [e]))⟩
theorem gb_new {w w2 : World} {g : Nat} (h : w.grownBy w2 (some g)) (hg : w.heap.size ≤ g) : w.grownBy w2 none :=
  ⟨h.os, h.tape, h.output, h.size, fun i hi _ => h.block i hi (by intro e; injection e with e; omega)⟩
theorem gb_drew (w : World) (row : Option Nat) : w.grownBy w.drew row := ⟨rfl, rfl, rfl, Nat.le_refl _, fun _ _ _ => rfl⟩
theorem gb_drewN (w : World) (n : Nat) (row : Option Nat) : w.grownBy (w.drewN n) row := ⟨rfl, rfl, rfl, Nat.le_refl _, fun _ _ _ => rfl⟩
theorem gb_gr {a b : World} (h : Gr a b) (row : Option Nat) : a.grownBy b row := ⟨h.1, h.2.1, h.2.2.1, h.2.2.2.1, fun i hi _ => h.2.2.2.2 i hi⟩
theorem gr_gb {a b : World} (h : a.grownBy b none) : Gr a b := ⟨h.os, h.tape, h.output, h.size, fun i hi => h.block i hi (by simp)⟩
theorem gb_below {B : Nat} {a b c : World} {row : Option Nat} (h : Below B a b) (k : b.grownBy c row) (hB : B ≤ b.heap.size) (hr : ∀ g, row = some g → B ≤ g) : Below B a c := h.grown k hB hr

theorem own_ne {w : World} {base g : Nat} {e t : TypeId} {size n : Nat} {v : Value} {xs : List Value} {cs : Array Value} (h : w.ownsRow base e size v n xs) (hb : IsB w g t cs) (hn : e ≠ t) : v.ownBlock ≠ some g := by
  rcases h.2 with ⟨rfl, _⟩ | ⟨g1, cap, cur, rfl, _, hh, _⟩
  · simp [Value.ownBlock]
  · intro he
    have e1 : g1 = g := by simpa [Value.ownBlock] using he
    subst e1
    exact IsB.ne (t := e) hh hb hn rfl
theorem own_keep0 {w w2 : World} {base : Nat} {e : TypeId} {size n : Nat} {v : Value} {xs : List Value} (h : w.ownsRow base e size v n xs) (k : w.grownBy w2 none) : w2.ownsRow base e size v n xs := by
  refine h.kept k ?_
  cases v.ownBlock with
  | none => exact .inl rfl
  | some g => exact .inr (by simp)
theorem own_keepS {w w2 : World} {s : Nat} {base : Nat} {e t : TypeId} {size n : Nat} {v : Value} {xs : List Value} {cs : Array Value} (h : w.ownsRow base e size v n xs) (k : w.grownBy w2 (some s)) (hs : IsB w s t cs) (hn : e ≠ t) : w2.ownsRow base e size v n xs :=
  h.kept k (.inr (own_ne h hs hn))

/-- The call returns v, the world grows but for block row, and what it leaves is as Q says. -/
def RetQ (v : Value) (w : World) (row : Option Nat) (Q : World → Prop) (e : Ending) (w' : World) : Prop := e = .returned v ∧ w.grownBy w' row ∧ Q w'

/-- Bit pos of the bytes bs, the first one being bit 7 of the first byte. -/
def bitAt (bs : List Int) (pos : Nat) : Int := bs.getD (pos / 8) 0 / 2 ^ (7 - pos % 8) % 2

theorem u8_one (x : Int) (h0 : 0 ≤ x) (h1 : x < 256) : bits .and .u8 x 1 = x % 2 := by
  have := bits_mask .u8 8 (by decide) wraps_u8 1 (by decide) x h0 (by simpa using h1)
  simpa using this
theorem bit_eq (bs : List Int) (pos : Nat) (x : Int) (hx : bs.getD (pos / 8) 0 = x) (h0 : 0 ≤ x) (h1 : x ≤ 255) : bitAt bs pos = bits .and .u8 (x / 2 ^ (7 - pos % 8)) 1 % 4294967296 := by
  have hp := pow_pos' (7 - pos % 8)
  have a := Int.ediv_nonneg h0 (Int.le_of_lt hp)
  have b := Int.ediv_le_self (2 ^ (7 - pos % 8)) h0
  rw [u8_one _ a (by omega)]
  unfold bitAt; rw [hx]
  omega
theorem nextBit_any (w : World) (s g cap : Nat) (bs : List Int) (pos : Nat) (x : Int) (hs : IsB w s 85 #[.slice (some ⟨g, 0, none⟩) bs.length cap, .int .i64 pos])
    (hd : w.cell? ⟨g, pos / 8, none⟩ = some (.int .u8 x)) (hx : bs.getD (pos / 8) 0 = x) (hx0 : 0 ≤ x) (hx1 : x ≤ 255) (hp : pos < 8 * bs.length) (hl : bs.length ≤ 60000) :
    Calls Try.prog 43 #[.pointer (some ⟨s, 0, none⟩)] w (RetQ (.int .u32 (bitAt bs pos)) w (some s) fun w' => IsB w' s 85 #[.slice (some ⟨g, 0, none⟩) bs.length cap, .int .i64 (pos + 1 : Nat)]) := by
  have c0 : w.cell? ⟨s, 0, none⟩ = some (.slice (some ⟨g, 0, none⟩) bs.length cap) := hs.cell 0
  have c1 : w.cell? ⟨s, 1, none⟩ = some (.int .i64 pos) := hs.cell 1
  have f1 := hs.free 1
  have HX := Lib.hid hx
  clear hx
  have i0 : (pos : Int) / 8 < bs.length := by omega
  go_enter Try.func43, Try.ntmps43
  go_wp2
  go_quiet (fail)
  go_wp2
  go_ret
  refine ⟨ret_i ?_, gb_trans (gb_drewN w nq _) (gb_set _ _ _ _), ?_⟩
  · rw [← bit_eq bs pos x HX.out hx0 hx1]
  · have k := (hs.keep0 (gb_drewN w nq none)).set 1 (.int .i64 ((pos : Int) + 1))
    simpa using k

/-- A reader in memory: the block that the caller holds, the block of its state, and the bytes that it owns. -/
structure Rdr (w : World) (base r s : Nat) (V : Value) (bs : List Int) (pos : Nat) : Prop where
  rb : IsB w r 74 #[.pointer (some ⟨s, 0, none⟩)]
  sb : IsB w s 85 #[V, .int .i64 pos]
  own : w.ownsRow base 5 1 V bs.length (bs.map (Value.int .u8))
theorem Rdr.keep0 {w w2 : World} {base r s : Nat} {V : Value} {bs : List Int} {pos : Nat} (h : Rdr w base r s V bs pos) (k : w.grownBy w2 none) : Rdr w2 base r s V bs pos :=
  ⟨h.rb.keep0 k, h.sb.keep0 k, own_keep0 h.own k⟩
theorem Rdr.step {w w2 : World} {base r s : Nat} {V : Value} {bs : List Int} {pos pos2 : Nat} (h : Rdr w base r s V bs pos) (k : w.grownBy w2 (some s)) (hs : IsB w2 s 85 #[V, .int .i64 pos2]) : Rdr w2 base r s V bs pos2 :=
  ⟨h.rb.keepS k h.sb (by decide), hs, own_keepS h.own k h.sb (by decide)⟩
theorem own_shape {w : World} {base : Nat} {e : TypeId} {size n : Nat} {v : Value} {xs : List Value} (h : w.ownsRow base e size v n xs) : ∃ a c, v = .slice a n c := by
  rcases h.2 with ⟨rfl, rfl⟩ | ⟨g, cap, cur, rfl, _⟩
  · exact ⟨_, _, rfl⟩
  · exact ⟨_, _, rfl⟩
theorem own_head {w : World} {base : Nat} {e : TypeId} {size n : Nat} {v : Value} {xs : List Value} (h : w.ownsRow base e size v n xs) (hn : 0 < n) : ∃ g c, v = .slice (some ⟨g, 0, none⟩) n c := by
  rcases h.2 with ⟨rfl, rfl⟩ | ⟨g, cap, cur, rfl, _⟩
  · omega
  · exact ⟨_, _, rfl⟩
theorem own_cell {w : World} {base : Nat} {e : TypeId} {k : IntKind} {g c : Nat} {bs : List Int} (h : w.ownsRow base e 1 (.slice (some ⟨g, 0, none⟩) bs.length c) bs.length (bs.map (Value.int k))) (j : Nat) (hj : j < bs.length) : w.cell? ⟨g, j, none⟩ = some (.int k (bs.getD j 0)) := by
  rw [h.cellAt j (by omega)]
  simp [hj]

theorem rmade_yes (w : World) (r : Nat) (a : Addr) (h : IsB w r 74 #[.pointer (some a)]) :
    Calls Try.prog 40 #[.pointer (some ⟨r, 0, none⟩)] w fun e w' => e = .returned (.bool true) ∧ w = w' := by
  have c0 : w.cell? ⟨r, 0, none⟩ = some (.pointer (some a)) := h.cell 0
  go_enter Try.func40, Try.ntmps40
  go_wp2
  go_ret
  exact ⟨rfl, rfl⟩
theorem rmade_nil (w : World) : Calls Try.prog 40 #[.pointer none] w fun e w' => e = .returned (.bool false) ∧ w = w' := by
  go_enter Try.func40, Try.ntmps40
  go_wp2
  go_ret
  exact ⟨rfl, rfl⟩
theorem rmade_raw (w : World) (r : Nat) (h : IsB w r 74 #[.pointer none]) :
    Calls Try.prog 40 #[.pointer (some ⟨r, 0, none⟩)] w fun e w' => e = .returned (.bool false) ∧ w = w' := by
  have c0 : w.cell? ⟨r, 0, none⟩ = some (.pointer none) := h.cell 0
  go_enter Try.func40, Try.ntmps40
  go_wp2
  go_ret
  exact ⟨rfl, rfl⟩
theorem fits0 (w : Int) : fitsB 0 w = okW w := by
  unfold fitsB okW; rw [decide_eq_decide]
  have := pow_pos' w.toNat
  omega
theorem iovalid_any (n : Int) (w : World) : Calls Try.prog 41 #[.int .i64 n] w (RetQ (.bool (okW n)) w none fun _ => True) := by
  go_enter Try.func41, Try.ntmps41
  go_wp2_with (go_at_call 46; refine (fits_any _ _ _).mono ?_; rintro e w' ⟨rfl, g⟩)
  go_ret
  exact ⟨ret_b (fits0 n), gb_gr (by assumption) _, trivial⟩
theorem remaining_any (w : World) (s : Nat) (a : Option Addr) (n c pos : Nat) (h : IsB w s 85 #[.slice a n c, .int .i64 pos]) (hn : n ≤ 60000) (hp : pos ≤ 8 * n) :
    Calls Try.prog 42 #[.pointer (some ⟨s, 0, none⟩)] w (RetQ (.int .i64 ((n : Int) * 8 - pos)) w none fun _ => True) := by
  have c0 : w.cell? ⟨s, 0, none⟩ = some (.slice a n c) := h.cell 0
  have c1 : w.cell? ⟨s, 1, none⟩ = some (.int .i64 pos) := h.cell 1
  go_enter Try.func42, Try.ntmps42
  go_wp2
  go_quiet (fail)
  go_wp2
  go_ret
  exact ⟨ret_i rfl, gb_drewN _ _ _, trivial⟩
theorem Remaining_any (w : World) (base r s : Nat) (V : Value) (bs : List Int) (pos : Nat) (h : Rdr w base r s V bs pos) (hn : bs.length ≤ 60000) (hp : pos ≤ 8 * bs.length) :
    Calls Try.prog 23 #[.pointer (some ⟨r, 0, none⟩)] w (RetQ (.int .i64 ((bs.length : Int) * 8 - pos)) w none fun _ => True) := by
  obtain ⟨a, c, rfl⟩ := own_shape h.own
  have c0 : w.cell? ⟨r, 0, none⟩ = some (.pointer (some ⟨s, 0, none⟩)) := h.rb.cell 0
  go_enter Try.func23, Try.ntmps23
  go_wp2_with (first | (go_at_call 40; refine (rmade_yes _ _ _ h.rb).mono ?_; rintro e w' ⟨rfl, rfl⟩) | (go_at_call 42; refine (remaining_any _ _ _ _ _ _ h.sb hn hp).mono ?_; rintro e w' ⟨rfl, g, _⟩))
  go_ret
  exact ⟨ret_i rfl, by assumption, trivial⟩
theorem Remaining_nil (w : World) : Calls Try.prog 23 #[.pointer none] w (RetQ (.int .i64 0) w none fun _ => True) := by
  go_enter Try.func23, Try.ntmps23
  go_wp2_with (go_at_call 40; refine (rmade_nil _).mono ?_; rintro e w' ⟨rfl, rfl⟩)
  go_ret
  exact ⟨rfl, gb_refl _ _, trivial⟩
theorem Remaining_raw (w : World) (r : Nat) (h : IsB w r 74 #[.pointer none]) : Calls Try.prog 23 #[.pointer (some ⟨r, 0, none⟩)] w (RetQ (.int .i64 0) w none fun _ => True) := by
  go_enter Try.func23, Try.ntmps23
  go_wp2_with (go_at_call 40; refine (rmade_raw _ _ h).mono ?_; rintro e w' ⟨rfl, rfl⟩)
  go_ret
  exact ⟨rfl, gb_refl _ _, trivial⟩
end Go.Proofs.Ytgknooblnpmloaa
