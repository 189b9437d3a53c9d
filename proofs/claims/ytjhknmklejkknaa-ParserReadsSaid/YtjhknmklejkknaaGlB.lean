/- Several texts in one: IoA, IoB, IoC, IoW, IoX, IoY, IoZ, IoP, IoQ, IoU, IoV, IoS, IoPa, IoRt. -/
import Derived.Test.YtjhknmklejkknaaGlA
import Derived.Deep.QuietTactic
import Derived.BigQuiet
import Derived.Laws.AppendOwnNone
import Derived.WalkLawsBesides
import Derived.StillTailTactics
import Derived.BigRegion
import Derived.RegionTactic
section
namespace Go.Proofs.Ytjhknmklejkknaa
open Go.RowKit

/-- Bit pos of the bytes bs, the first one being bit 7 of the first byte. -/
def bitAt (bs : List Int) (pos : Nat) : Int := bs.getD (pos / 8) 0 / 2 ^ (7 - pos % 8) % 2

theorem u8_one (x : Int) (h0 : 0 ≤ x) (h1 : x < 256) : bits .and .u8 x 1 = x % 2 := by
  have := bits_mask .u8 8 (by decide) wraps_u8 1 (by decide) x h0 (by simpa using h1)
  simpa using this
theorem bit_eq (bs : List Int) (pos : Nat) (x : Int) (hx : bs.getD (pos / 8) 0 = x) (h0 : 0 ≤ x) (h1 : x ≤ 255) : bitAt bs pos = bits .and .u8 (x / 2 ^ (7 - pos % 8)) 1 % 4294967296 := by
  have hp := pow_pos' (7 - pos % 8)
  have a := Int.ediv_nonneg h0 (Int.le_of_lt hp)
  have b := Int.ediv_le_self (2 ^ (7 - pos % 8)) h0
  rw [u8_one _ a (by omega)]
  unfold bitAt; rw [hx]
  omega
theorem nextBit_any (w : World) (s g cap : Nat) (bs : List Int) (pos : Nat) (x : Int) (hs : IsB w s 106 #[.slice (some ⟨g, 0, none⟩) bs.length cap, .int .i64 pos])
    (hd : w.cell? ⟨g, pos / 8, none⟩ = some (.int .u8 x)) (hx : bs.getD (pos / 8) 0 = x) (hx0 : 0 ≤ x) (hx1 : x ≤ 255) (hp : pos < 8 * bs.length) (hl : bs.length ≤ 60000) :
    Calls Try.prog 100 #[.pointer (some ⟨s, 0, none⟩)] w (RetQ (.int .u32 (bitAt bs pos)) w (some s) fun w' => IsB w' s 106 #[.slice (some ⟨g, 0, none⟩) bs.length cap, .int .i64 (pos + 1 : Nat)]) := by
  have c0 : w.cell? ⟨s, 0, none⟩ = some (.slice (some ⟨g, 0, none⟩) bs.length cap) := hs.cell 0
  have c1 : w.cell? ⟨s, 1, none⟩ = some (.int .i64 pos) := hs.cell 1
  have f1 := hs.free 1
  have HX := Lib.hid hx
  clear hx
  have i0 : (pos : Int) / 8 < bs.length := by omega
  go_enter Try.func100, Try.ntmps100
  go_wp2
  go_quiet (fail)
  go_wp2
  go_ret
  refine ⟨ret_i ?_, gb_trans (gb_drewN w nq _) (gb_set _ _ _ _), ?_⟩
  · rw [← bit_eq bs pos x HX.out hx0 hx1]
  · have k := (hs.keep0 (gb_drewN w nq none)).set 1 (.int .i64 ((pos : Int) + 1))
    simpa using k

/-- A reader in memory: the block that the caller holds, the block of its state, and the bytes that it owns. -/
structure Rdr (w : World) (base r s : Nat) (V : Value) (bs : List Int) (pos : Nat) : Prop where
  rb : IsB w r 108 #[.pointer (some ⟨s, 0, none⟩)]
  sb : IsB w s 106 #[V, .int .i64 pos]
  own : w.ownsRow base 5 1 V bs.length (bs.map (Value.int .u8))
theorem Rdr.keep0 {w w2 : World} {base r s : Nat} {V : Value} {bs : List Int} {pos : Nat} (h : Rdr w base r s V bs pos) (k : w.grownBy w2 none) : Rdr w2 base r s V bs pos :=
  ⟨h.rb.keep0 k, h.sb.keep0 k, own_keep0 h.own k⟩
theorem Rdr.step {w w2 : World} {base r s : Nat} {V : Value} {bs : List Int} {pos pos2 : Nat} (h : Rdr w base r s V bs pos) (k : w.grownBy w2 (some s)) (hs : IsB w2 s 106 #[V, .int .i64 pos2]) : Rdr w2 base r s V bs pos2 :=
  ⟨h.rb.keepS k h.sb (by decide), hs, own_keepS h.own k h.sb (by decide)⟩
theorem rmade_yes (w : World) (r : Nat) (a : Addr) (h : IsB w r 108 #[.pointer (some a)]) :
    Calls Try.prog 68 #[.pointer (some ⟨r, 0, none⟩)] w fun e w' => e = .returned (.bool true) ∧ w = w' := by
  have c0 : w.cell? ⟨r, 0, none⟩ = some (.pointer (some a)) := h.cell 0
  go_enter Try.func68, Try.ntmps68
  go_wp2
  go_ret
  exact ⟨rfl, rfl⟩
theorem fits0h (w : Int) : fitsB 0 w = okW w := by
  unfold fitsB okW; rw [decide_eq_decide]
  have := pow_pos' w.toNat
  omega
theorem iovalid_any (n : Int) (w : World) : Calls Try.prog 98 #[.int .i64 n] w (RetQ (.bool (okW n)) w none fun _ => True) := by
  go_enter Try.func98, Try.ntmps98
  go_wp2_with (go_at_call 106; refine (fits_any _ _ _).mono ?_; rintro e w' ⟨rfl, g⟩)
  go_ret
  exact ⟨ret_b (fits0h n), gb_gr (by assumption) _, trivial⟩
theorem remaining_any (w : World) (s : Nat) (a : Option Addr) (n c pos : Nat) (h : IsB w s 106 #[.slice a n c, .int .i64 pos]) (hn : n ≤ 60000) (hp : pos ≤ 8 * n) :
    Calls Try.prog 99 #[.pointer (some ⟨s, 0, none⟩)] w (RetQ (.int .i64 ((n : Int) * 8 - pos)) w none fun _ => True) := by
  have c0 : w.cell? ⟨s, 0, none⟩ = some (.slice a n c) := h.cell 0
  have c1 : w.cell? ⟨s, 1, none⟩ = some (.int .i64 pos) := h.cell 1
  go_enter Try.func99, Try.ntmps99
  go_wp2
  go_quiet (fail)
  go_wp2
  go_ret
  exact ⟨ret_i rfl, gb_drewN _ _ _, trivial⟩
theorem Remaining_any (w : World) (base r s : Nat) (V : Value) (bs : List Int) (pos : Nat) (h : Rdr w base r s V bs pos) (hn : bs.length ≤ 60000) (hp : pos ≤ 8 * bs.length) :
    Calls Try.prog 66 #[.pointer (some ⟨r, 0, none⟩)] w (RetQ (.int .i64 ((bs.length : Int) * 8 - pos)) w none fun _ => True) := by
  obtain ⟨a, c, rfl⟩ := own_shape h.own
  have c0 : w.cell? ⟨r, 0, none⟩ = some (.pointer (some ⟨s, 0, none⟩)) := h.rb.cell 0
  go_enter Try.func66, Try.ntmps66
  go_wp2_with (first | (go_at_call 68; refine (rmade_yes _ _ _ h.rb).mono ?_; rintro e w' ⟨rfl, rfl⟩) | (go_at_call 99; refine (remaining_any _ _ _ _ _ _ h.sb hn hp).mono ?_; rintro e w' ⟨rfl, g, _⟩))
  go_ret
  exact ⟨ret_i rfl, by assumption, trivial⟩
end Go.Proofs.Ytjhknmklejkknaa
end
section
namespace Go.Proofs.Ytjhknmklejkknaa
open Go.RowKit

/-- The number that the k bits from pos on make. -/
def accB (bs : List Int) (pos : Nat) : Nat → Int
  | 0 => 0
  | k + 1 => 2 * accB bs pos k + bitAt bs (pos + k)
theorem bitAt_range (bs : List Int) (p : Nat) : 0 ≤ bitAt bs p ∧ bitAt bs p ≤ 1 := by unfold bitAt; omega
theorem accB_range (bs : List Int) (pos k : Nat) : 0 ≤ accB bs pos k ∧ accB bs pos k < 2 ^ k := by
  induction k with
  | zero => simp [accB]
  | succ k ih =>
    have := bitAt_range bs (pos + k)
    simp only [accB, Int.pow_succ]
    omega
theorem acc_step (bs : List Int) (pos k : Nat) (hk : k < 32) : bits .or .u32 (accB bs pos k * 2 % 4294967296) (bitAt bs (pos + k)) = accB bs pos (k + 1) := by
  have r := accB_range bs pos k
  have b := bitAt_range bs (pos + k)
  have p := pow_mono (k + 1) 32 (by omega)
  rw [Int.pow_succ] at p
  have p2 : (2 : Int) ^ 32 = 4294967296 := by decide
  rw [Int.emod_eq_of_lt (by omega) (by omega)]
  have j := bits_join .u32 32 (by decide) wraps_u32 1 (accB bs pos k * 2) (bitAt bs (pos + k)) (by omega) (by simp) (by omega) b.1 (by simp; omega) (by omega)
  rw [j]; simp only [accB]; omega

theorem reads_ok (w : World) (base r s : Nat) (V : Value) (bs : List Int) (pos : Nat) (n : Int) (h : Rdr w base r s V bs pos) (hb : ∀ b ∈ bs, 0 ≤ b ∧ b ≤ 255) (hn : bs.length ≤ 60000)
    (h1 : 1 ≤ n) (h2 : n ≤ 32) (hp : (pos : Int) + n ≤ 8 * bs.length) :
    Calls Try.prog 65 #[.pointer (some ⟨r, 0, none⟩), .int .i64 n] w (RetQ (.tuple #[.int .u32 (accB bs pos n.toNat), .int .i64 0]) w (some s) fun w' => Rdr w' base r s V bs (pos + n.toNat)) := by
  obtain ⟨g, c, rfl⟩ := own_head h.own (by omega)
  have c0 : w.cell? ⟨r, 0, none⟩ = some (.pointer (some ⟨s, 0, none⟩)) := h.rb.cell 0
  have HV := Lib.hid (show okW n = true by simp [okW, h1, h2])
  have hle : ¬ (bs.length : Int) * 8 - pos < n := by omega
  have hm := (iovalid_any n w)
  rw [HV.out] at hm
  have HM := Lib.hid hm
  clear hm
  go_enter Try.func65, Try.ntmps65
  go_wp2_with fail
  refine (rmade_yes _ _ _ h.rb).mono ?_
  rintro e w1 ⟨rfl, rfl⟩
  go_wp2_with fail
  refine HM.out.mono ?_
  rintro e w2 ⟨rfl, g2, _⟩
  have h3 := h.keep0 g2
  have c3 : w2.cell? ⟨r, 0, none⟩ = some (.pointer (some ⟨s, 0, none⟩)) := h3.rb.cell 0
  go_wp2_with fail
  refine (remaining_any _ _ _ _ _ _ h3.sb hn (by omega)).mono ?_
  rintro e w3 ⟨rfl, g3, _⟩
  have h4 := h3.keep0 g3
  have g4 := gb_any (row := some s) (gb_trans g2 g3)
  clear g2 g3 h3 c3 c0
  go_wp2_with fail
  go_loopw [6, 21] (fun v i wr => ∃ k : Nat, k ≤ n.toNat ∧ v = .int .u32 (accB bs pos k) ∧ i = .int .i64 k ∧ Rdr wr base r s (.slice (some ⟨g, 0, none⟩) bs.length c) bs (pos + k) ∧ w.grownBy wr (some s)) (fun _ i _ => n.toNat - (intOf i).toNat)
  case atStart => exact ⟨0, Nat.zero_le _, rfl, rfl, h4, g4⟩
  case round =>
    obtain ⟨k, hk, rfl, rfl, hr, hg⟩ := hrel
    clear h4 g4 h
    by_cases hlt : (k : Int) < n
    · have c5 : wr.cell? ⟨r, 0, none⟩ = some (.pointer (some ⟨s, 0, none⟩)) := hr.rb.cell 0
      have hd := own_cell hr.own ((pos + k) / 8) (by omega)
      have hx := hb (bs.getD ((pos + k) / 8) 0) (by rw [List.getD_eq_getElem?_getD, List.getElem?_eq_getElem (by omega)]; exact List.getElem_mem _)
      have HN := Lib.hid (nextBit_any wr s g c bs (pos + k) _ hr.sb hd rfl hx.1 hx.2 (by omega) hn)
      have HS := Lib.hid (acc_step bs pos k (by omega))
      have HR := Lib.hid hr
      clear hd hx hr
      go_wp2_with fail
      refine HN.out.mono ?_
      rintro e w5 ⟨rfl, g5, q5⟩
      go_wp2
      go_roundw
      case rel => exact ⟨k + 1, by omega, by rw [HS.out], by go_num, HR.out.step g5 q5, gb_trans hg g5⟩
      case measure => simp [intOf]; omega
    · have EK := Lib.hid (show k = n.toNat by omega)
      go_wp2
      go_ret2
      exact ⟨ret_ii (by rw [EK.out]) rfl, hg, by rw [← EK.out]; exact hr⟩

theorem reads_width (w : World) (base r s : Nat) (V : Value) (bs : List Int) (pos : Nat) (n : Int) (h : Rdr w base r s V bs pos) (hv : okW n = false) :
    Calls Try.prog 65 #[.pointer (some ⟨r, 0, none⟩), .int .i64 n] w (RetQ (.tuple #[.int .u32 0, .int .i64 10]) w (some s) fun w' => Rdr w' base r s V bs pos) := by
  have hm := (iovalid_any n w)
  rw [hv] at hm
  have HM := Lib.hid hm
  clear hm hv
  go_enter Try.func65, Try.ntmps65
  go_wp2_with fail
  refine (rmade_yes _ _ _ h.rb).mono ?_
  rintro e w1 ⟨rfl, rfl⟩
  go_wp2_with fail
  refine HM.out.mono ?_
  rintro e w2 ⟨rfl, g2, _⟩
  have h3 := h.keep0 g2
  go_wp2
  go_ret2
  exact ⟨rfl, gb_any g2, h3⟩
theorem reads_short (w : World) (base r s : Nat) (V : Value) (bs : List Int) (pos : Nat) (n : Int) (h : Rdr w base r s V bs pos) (hn : bs.length ≤ 60000)
    (h1 : 1 ≤ n) (h2 : n ≤ 32) (hq : pos ≤ 8 * bs.length) (hp : 8 * (bs.length : Int) < pos + n) :
    Calls Try.prog 65 #[.pointer (some ⟨r, 0, none⟩), .int .i64 n] w (RetQ (.tuple #[.int .u32 0, .int .i64 3]) w (some s) fun w' => Rdr w' base r s V bs pos) := by
  obtain ⟨a, c, rfl⟩ := own_shape h.own
  have HV := Lib.hid (show okW n = true by simp [okW, h1, h2])
  have hle : (bs.length : Int) * 8 - pos < n := by omega
  have hm := (iovalid_any n w)
  rw [HV.out] at hm
  have HM := Lib.hid hm
  clear hm
  go_enter Try.func65, Try.ntmps65
  go_wp2_with fail
  refine (rmade_yes _ _ _ h.rb).mono ?_
  rintro e w1 ⟨rfl, rfl⟩
  go_wp2_with fail
  refine HM.out.mono ?_
  rintro e w2 ⟨rfl, g2, _⟩
  have h3 := h.keep0 g2
  have c3 : w2.cell? ⟨r, 0, none⟩ = some (.pointer (some ⟨s, 0, none⟩)) := h3.rb.cell 0
  go_wp2_with fail
  refine (remaining_any _ _ _ _ _ _ h3.sb hn (by omega)).mono ?_
  rintro e w3 ⟨rfl, g3, _⟩
  have h4 := h3.keep0 g3
  have g4 := gb_any (row := some s) (gb_trans g2 g3)
  clear g2 g3 h3 c3
  go_wp2
  go_ret2
  exact ⟨rfl, g4, h4⟩
end Go.Proofs.Ytjhknmklejkknaa
end
section
namespace Go.Proofs.Ytjhknmklejkknaa
open Go.RowKit

/-- The call returns a slice of bytes of its own and no error. -/
def RetSh (bs : List Int) (w : World) (base : Nat) (e : Ending) (w' : World) : Prop :=
  ∃ v', e = .returned (.tuple #[v', .int .i64 0]) ∧ w.grownBy w' none ∧ w'.ownsRow base 5 1 v' bs.length (bs.map (Value.int .u8)) ∧ (bs = [] → v' = .slice none 0 0)

/-- The call returns a reader at the first bit of its own copy. -/
def NewR (bs : List Int) (w : World) (e : Ending) (w' : World) : Prop :=
  ∃ r s V, e = .returned (.pointer (some ⟨r, 0, none⟩)) ∧ w.grownBy w' none ∧ Rdr w' w.heap.size r s V bs 0 ∧ (bs = [] → V = .slice none 0 0) ∧ w.heap.size ≤ r ∧ w.heap.size ≤ s

theorem newR_close (w w1 : World) (V : Value) (bs : List Int) (hg : w.grownBy w1 none) (hown : w1.ownsRow w.heap.size 5 1 V bs.length (bs.map (Value.int .u8))) (hnil : bs = [] → V = .slice none 0 0) :
    NewR bs w (.returned (.pointer (some ⟨w1.heap.size + 1, 0, none⟩))) ((w1.alloc (.cells #[V, .int .i64 0] 106)).alloc (.cells #[.pointer (some ⟨w1.heap.size, 0, none⟩)] 108)) := by
  have e : (w1.alloc (.cells #[V, .int .i64 0] 106)).heap.size = w1.heap.size + 1 := by simp
  have hs := hg.size
  refine ⟨w1.heap.size + 1, w1.heap.size, V, rfl, gb_trans (gb_trans hg (gb_alloc _ _ _)) (gb_alloc _ _ _), ⟨?_, ?_, ?_⟩, hnil, by omega, hs⟩
  · have k := IsB.new (w1.alloc (.cells #[V, .int .i64 0] 106)) 108 #[.pointer (some ⟨w1.heap.size, 0, none⟩)]
    rw [e] at k; exact k
  · exact (IsB.new w1 106 #[V, .int .i64 0]).alloc _
  · exact (hown.alloc _).alloc _

theorem newReader_any (w : World) (a : Option Addr) (n c : Nat) (bs : List Int) (h : SlR w a n c (bs.map (Value.int .u8))) (hn : bs.length ≤ 60000) :
    Calls Try.prog 39 #[.slice a n c] w (NewR bs w) := by
  obtain ⟨i0, hi, hz0, hz1, hz2⟩ := info_parts infoU8
  obtain ⟨hl, hno, hc⟩ := h
  have hl : bs.length = n := by simpa using hl
  subst hl
  cases a with
  | none =>
    obtain ⟨h0, rfl⟩ := hno rfl
    have hbs : bs = [] := List.length_eq_zero_iff.1 h0
    subst hbs
    have HI := Lib.hid hi
    clear hno hc hn hz0 hz1 hz2 hi h0
    go_enter Try.func39, Try.ntmps39
    go_wp2_with (at_builtin; refine wpList_append_own_none rfl _ _ 37 rfl w.heap.size 5 i0 1 Try.underlying37 HI.out _ _ _ rfl (World.ownsRow_nil _ _ _ _) rfl ?_)
    go_ret
    exact newR_close w w (.slice none 0 0) [] (gb_refl _ _) (World.ownsRow_nil _ _ _ _) (fun _ => rfl)
  | some ad =>
    have HC := Lib.hid (hc ad rfl)
    have HI := Lib.hid hi
    clear hno hc hi
    go_enter Try.func39, Try.ntmps39
    go_wp2_with (at_builtin; refine wpList_append_own _ rfl _ _ 37 rfl w.heap.size 5 i0 (.int .u8 0) 1 1 Try.underlying37 HI.out hz0 hz1 hz2 rfl (by decide) _ 0 [] rfl (World.ownsRow_nil _ _ _ _) ad bs.length c (bs.map (Value.int .u8)) rfl ?c1 HC.out (ints_one _ _) ?c3 ?c4 ?c5 ?_)
    case c1 => simp
    case c3 => unfold maxLen; omega
    case c4 => omega
    case c5 => exact Nat.le_refl _
    · intro v' w1 hown hg hiff
      try simp only [List.nil_append, Nat.zero_add] at hown
      obtain ⟨a2, c2, rfl⟩ := own_shape hown
      have HO := Lib.hid hown
      have HF := Lib.hid hiff
      clear hown hiff hz0 hz1 hz2 HC HI hl
      go_wp2
      go_ret
      exact newR_close w w1 _ bs hg HO.out (fun e => HF.out.2 e)

end Go.Proofs.Ytjhknmklejkknaa
end
section
namespace Go.Proofs.Ytjhknmklejkknaa
open Go.RowKit

/-- Changed are at most blocks from base on that hold bytes or a writer's state; all else below the heap's size stands. -/
structure GTh (base : Nat) (w w' : World) : Prop where
  os : w'.os = w.os
  tape : w'.tape = w.tape
  output : w'.output = w.output
  size : w.heap.size ≤ w'.heap.size
  low : ∀ k, k < w.heap.size → k < base → w'.heap[k]? = w.heap[k]?
  kind : ∀ g t cs, IsB w g t cs → t ≠ 5 → t ≠ 135 → IsB w' g t cs
theorem GTh.refl (base : Nat) (w : World) : GTh base w w := ⟨rfl, rfl, rfl, Nat.le_refl _, fun _ _ _ => rfl, fun _ _ _ h _ _ => h⟩
theorem GTh.trans {base : Nat} {a b c : World} (h : GTh base a b) (k : GTh base b c) : GTh base a c :=
  ⟨k.os.trans h.os, k.tape.trans h.tape, k.output.trans h.output, Nat.le_trans h.size k.size, fun i hi hb => (k.low i (Nat.lt_of_lt_of_le hi h.size) hb).trans (h.low i hi hb), fun g t cs hg h1 h2 => k.kind g t cs (h.kind g t cs hg h1 h2) h1 h2⟩
def bv (L : List Bool) (p : Nat) : Int := if L.getD p false then 1 else 0
def byteAt (L : List Bool) (i : Nat) : Int :=
  bv L (8 * i) * 128 + bv L (8 * i + 1) * 64 + bv L (8 * i + 2) * 32 + bv L (8 * i + 3) * 16 + bv L (8 * i + 4) * 8 + bv L (8 * i + 5) * 4 + bv L (8 * i + 6) * 2 + bv L (8 * i + 7)
/-- The bytes that a list of bits makes, its last one filled with zeros. -/
def packB (L : List Bool) : List Int := (List.range ((L.length + 7) / 8)).map (byteAt L)
theorem bv_range (L : List Bool) (p : Nat) : 0 ≤ bv L p ∧ bv L p ≤ 1 := by unfold bv; split <;> omega
theorem byteAt_range (L : List Bool) (i : Nat) : 0 ≤ byteAt L i ∧ byteAt L i ≤ 255 := by
  have h0 := bv_range L (8 * i); have h1 := bv_range L (8 * i + 1); have h2 := bv_range L (8 * i + 2); have h3 := bv_range L (8 * i + 3)
  have h4 := bv_range L (8 * i + 4); have h5 := bv_range L (8 * i + 5); have h6 := bv_range L (8 * i + 6); have h7 := bv_range L (8 * i + 7)
  unfold byteAt; omega
end Go.Proofs.Ytjhknmklejkknaa
end
section
namespace Go.Proofs.Ytjhknmklejkknaa
open Go.RowKit

theorem packB_len (L : List Bool) : (packB L).length = (L.length + 7) / 8 := by simp [packB]
theorem packB_get (L : List Bool) (i : Nat) (h : i < (L.length + 7) / 8) : (packB L).getD i 0 = byteAt L i := by simp [packB, h]
theorem packB_range (L : List Bool) : ∀ x ∈ packB L, 0 ≤ x ∧ x ≤ 255 := by
  intro x hx
  unfold packB at hx
  obtain ⟨i, _, rfl⟩ := List.mem_map.1 hx
  exact byteAt_range L i
theorem packB_at (L : List Bool) (i : Nat) (h : i < (packB L).length) : (packB L)[i] = byteAt L i := by simp [packB]
/-- The state of a writer in memory. -/
structure WSt (w : World) (base s : Nat) (V : Value) (L : List Bool) : Prop where
  sb : IsB w s 135 #[V, .int .i64 L.length]
  own : w.ownsRow base 5 1 V (packB L).length ((packB L).map (Value.int .u8))
  low : base ≤ s

/-- A bit has been appended: the state holds it, and nothing else has changed. -/
def Bit (w : World) (base s : Nat) (L : List Bool) (e : Ending) (w' : World) : Prop := e = .returned (.tuple #[]) ∧ GTh base w w' ∧ ∃ V, WSt w' base s V L

theorem Bit.from {w w2 : World} {base s : Nat} {L : List Bool} {e : Ending} {w' : World} (h : Bit w2 base s L e w') (k : GTh base w w2) : Bit w base s L e w' := ⟨h.1, k.trans h.2.1, h.2.2⟩

end Go.Proofs.Ytjhknmklejkknaa
end
section
namespace Go.Proofs.Ytjhknmklejkknaa
open Go.RowKit

/-- A writer in memory. -/
structure Wtr (w : World) (base r s : Nat) (V : Value) (L : List Bool) : Prop where
  wb : IsB w r 137 #[.pointer (some ⟨s, 0, none⟩)]
  st : WSt w base s V L
theorem Wtr.keep0 {w w2 : World} {base r s : Nat} {V : Value} {L : List Bool} (h : Wtr w base r s V L) (k : w.grownBy w2 none) : Wtr w2 base r s V L :=
  ⟨h.wb.keep0 k, ⟨h.st.sb.keep0 k, own_keep0 h.st.own k, h.st.low⟩⟩
/-- Bit i of the n bits of v, the most significant one first. -/
def vb (v : Int) (n i : Nat) : Bool := decide (v / 2 ^ (n - 1 - i) % 2 = 1)
def bitsOf (v : Int) (n : Nat) : List Bool := (List.range n).map (vb v n)
theorem bitsOf_len (v : Int) (n : Nat) : (bitsOf v n).length = n := by simp [bitsOf]
theorem bitsOf_take (v : Int) (n k : Nat) (h : k < n) : (bitsOf v n).take (k + 1) = (bitsOf v n).take k ++ [vb v n k] := by
  rw [List.take_succ_eq_append_getElem (by simpa [bitsOf] using h)]
  simp [bitsOf]
end Go.Proofs.Ytjhknmklejkknaa
end
section
namespace Go.Proofs.Ytjhknmklejkknaa
open Go.RowKit

end Go.Proofs.Ytjhknmklejkknaa
end
section
namespace Go.Proofs.Ytjhknmklejkknaa
open Go.RowKit
set_option linter.unusedVariables false

/-- One number written: the error code and the bits held. -/
def wrStep (L : List Bool) (v n : Int) : Int × List Bool := if okW n then if fitsB v n then (0, L ++ bitsOf v n.toNat) else (9, L) else (10, L)
/-- The numbers written one after the other, up to the first error. -/
def pkRun : List Bool → List (Int × Int) → Int × List Bool
  | L, [] => (0, L)
  | L, (v, n) :: t => if (wrStep L v n).1 = 0 then pkRun (wrStep L v n).2 t else wrStep L v n

theorem pkRun_len (L : List Bool) (v n : Int) : (wrStep L v n).2.length ≤ L.length + 32 := by
  unfold wrStep
  split
  · rename_i h
    have h2 : 1 ≤ n ∧ n ≤ 32 := of_decide_eq_true h
    split
    · simp only [List.length_append, bitsOf_len]; omega
    · show L.length ≤ L.length + 32; omega
  · show L.length ≤ L.length + 32; omega
theorem zip_drop (vals ns : List Int) (k : Nat) (h1 : k < vals.length) (h2 : k < ns.length) : (vals.zip ns).drop k = (vals.getD k 0, ns.getD k 0) :: (vals.zip ns).drop (k + 1) := by
  rw [List.drop_eq_getElem_cons (by simp; omega)]
  simp [h1, h2]
theorem zip_end (vals ns : List Int) (k : Nat) (h2 : ns.length ≤ k) : (vals.zip ns).drop k = [] := by
  apply List.drop_eq_nil_of_le
  simp; omega

/-- The call returns bytes of its own and an error code. -/
def RetP (er : Int) (bs : List Int) (w : World) (e : Ending) (w' : World) : Prop :=
  ∃ v', e = .returned (.tuple #[v', .int .i64 er]) ∧ Below w.heap.size w w' ∧ w'.ownsRow w.heap.size 5 1 v' bs.length (bs.map (Value.int .u8)) ∧ (bs = [] → v' = .slice none 0 0)
theorem RetP.nil {er : Int} {w w' : World} {v : Value} (h : Below w.heap.size w w') (hv : v = .int .i64 er) : RetP er [] w (.returned (.tuple #[.slice none 0 0, v])) w' := by
  subst hv; exact ⟨_, rfl, h, World.ownsRow_nil _ _ _ _, fun _ => rfl⟩

end Go.Proofs.Ytjhknmklejkknaa
end
section
namespace Go.Proofs.Ytjhknmklejkknaa
open Go.RowKit
set_option linter.unusedVariables false

end Go.Proofs.Ytjhknmklejkknaa
end
section
namespace Go.Proofs.Ytjhknmklejkknaa
open Go.RowKit
set_option linter.unusedVariables false

theorem infoU32h : (Try.prog.info? 58).map (fun i => (i.zero, i.size, i.bytes)) = some (some (.int .u32 0), 1, 4) := by kernel_rfl

/-- One number read: the error code, the number, the position behind it. -/
def rdStep (bs : List Int) (pos : Nat) (n : Int) : Int × Int × Nat :=
  if okW n then if (pos : Int) + n ≤ 8 * bs.length then (0, accB bs pos n.toNat, pos + n.toNat) else (3, 0, pos) else (10, 0, pos)
theorem reads_any (w : World) (base r s : Nat) (V : Value) (bs : List Int) (pos : Nat) (n : Int) (h : Rdr w base r s V bs pos) (hb : ∀ b ∈ bs, 0 ≤ b ∧ b ≤ 255) (hn : bs.length ≤ 60000) (hp : pos ≤ 8 * bs.length)
    (er v : Int) (pos2 : Nat) (hq : rdStep bs pos n = (er, v, pos2)) :
    Calls Try.prog 65 #[.pointer (some ⟨r, 0, none⟩), .int .i64 n] w (RetQ (.tuple #[.int .u32 v, .int .i64 er]) w (some s) fun w' => Rdr w' base r s V bs pos2) := by
  unfold rdStep at hq
  by_cases hv : okW n = true
  · rw [if_pos hv] at hq
    have h2 : 1 ≤ n ∧ n ≤ 32 := of_decide_eq_true hv
    by_cases hf : (pos : Int) + n ≤ 8 * bs.length
    · rw [if_pos hf] at hq
      simp only [Prod.mk.injEq] at hq
      obtain ⟨rfl, rfl, rfl⟩ := hq
      exact reads_ok w base r s V bs pos n h hb hn h2.1 h2.2 hf
    · rw [if_neg hf] at hq
      simp only [Prod.mk.injEq] at hq
      obtain ⟨rfl, rfl, rfl⟩ := hq
      exact reads_short w base r s V bs pos n h hn h2.1 h2.2 hp (by omega)
  · rw [if_neg hv] at hq
    simp only [Prod.mk.injEq] at hq
    obtain ⟨rfl, rfl, rfl⟩ := hq
    exact reads_width w base r s V bs pos n h (by simpa using hv)

theorem own_two {w : World} {b1 b2 : Nat} {e1 e2 : TypeId} {s1 s2 n1 n2 : Nat} {v1 v2 : Value} {x1 x2 : List Value} (h1 : w.ownsRow b1 e1 s1 v1 n1 x1) (h2 : w.ownsRow b2 e2 s2 v2 n2 x2) (hn : e1 ≠ e2) : v1.ownBlock = none ∨ v1.ownBlock ≠ v2.ownBlock := by
  rcases h2.2 with ⟨rfl, _⟩ | ⟨g, cap, cur, rfl, _, hh, _⟩
  · cases v1.ownBlock with
    | none => exact .inl rfl
    | some k => exact .inr (by simp [Value.ownBlock])
  · exact .inr (own_ne h1 (show IsB w g e2 cur from hh) hn)
theorem Rdr.other {w w2 : World} {base r s b2 n : Nat} {V U : Value} {bs : List Int} {pos : Nat} {xs : List Value} (h : Rdr w base r s V bs pos) (hU : w.ownsRow b2 58 1 U n xs) (k : w.grownBy w2 U.ownBlock) : Rdr w2 base r s V bs pos :=
  ⟨h.rb.keep k (fun e => own_ne hU h.rb (by decide) e.symm), h.sb.keep k (fun e => own_ne hU h.sb (by decide) e.symm), h.own.kept k (own_two h.own hU (by decide))⟩

end Go.Proofs.Ytjhknmklejkknaa
end
section
namespace Go.Proofs.Ytjhknmklejkknaa
open Go.RowKit
set_option linter.unusedVariables false

/-- The call returns numbers of its own and an error code. -/
def RetUh (er : Int) (us : List Int) (w : World) (e : Ending) (w' : World) : Prop :=
  ∃ v', e = .returned (.tuple #[v', .int .i64 er]) ∧ Below w.heap.size w w' ∧ w'.ownsRow w.heap.size 58 1 v' us.length (us.map (Value.int .u32))
theorem RetUh.nil {er : Int} {w w' : World} {v : Value} (h : Below w.heap.size w w') (hv : v = .int .i64 er) : RetUh er [] w (.returned (.tuple #[.slice none 0 0, v])) w' := by
  subst hv; exact ⟨_, rfl, h, World.ownsRow_nil _ _ _ _⟩
end Go.Proofs.Ytjhknmklejkknaa
end
section
namespace Go.Proofs.Ytjhknmklejkknaa
open Go.RowKit
set_option linter.unusedVariables false

theorem conv_str (w : World) (a : Option Addr) (n c : Nat) (bs : List Int) (h : SlR w a n c (bs.map (Value.int .u8))) :
    (convert 37 9 (.slice a n c)).run Try.prog w = .ok (.string (strOf bs)) w := by
  rw [run_convert_bytes_string w 37 9 5 a n c Try.underlying37 Try.underlying5 Try.underlying9]
  have hl : bs.length = n := by simpa using h.1
  subst hl
  cases a with
  | none =>
    obtain ⟨h0, rfl⟩ := h.2.1 rfl
    have hbs : bs = [] := List.length_eq_zero_iff.1 h0
    subst hbs
    simp [Conv.bytesToString, strOf, Sem.run_pure]
  | some ad =>
    have k := run_loadCells_list (P := Try.prog) (w := w) ad (bs.map (Value.int .u8)) (h.2.2 ad rfl)
    rw [List.length_map] at k
    exact run_bytesToString w ad bs.length c bs k

end Go.Proofs.Ytjhknmklejkknaa
end
section
namespace Go.Proofs.Ytjhknmklejkknaa
open Go.RowKit
set_option linter.unusedVariables false

def sumL : List Int → Nat
  | [] => 0
  | n :: t => n.toNat + sumL t
def goodL (l : List Int) : Prop := ∀ n ∈ l, 1 ≤ n ∧ n ≤ 32
def numsB (bs : List Int) : Nat → List Int → List Int
  | _, [] => []
  | pos, n :: t => accB bs pos n.toNat :: numsB bs (pos + n.toNat) t
def bitsTo (bs : List Int) (p : Nat) : List Bool := (List.range p).map fun j => decide (bitAt bs j = 1)
theorem numsB_len (bs : List Int) (pos : Nat) (l : List Int) : (numsB bs pos l).length = l.length := by
  induction l generalizing pos with
  | nil => rfl
  | cons n t ih => simp [numsB, ih]
theorem goodL_tail {n : Int} {t : List Int} (h : goodL (n :: t)) : (1 ≤ n ∧ n ≤ 32) ∧ goodL t := ⟨h n (by simp), fun m hm => h m (by simp [hm])⟩
theorem rd_good (bs : List Int) (pos : Nat) (n : Int) (h1 : 1 ≤ n ∧ n ≤ 32) (h2 : pos + n.toNat ≤ 8 * bs.length) : rdStep bs pos n = (0, accB bs pos n.toNat, pos + n.toNat) := by
  unfold rdStep
  rw [if_pos (show okW n = true from decide_eq_true h1), if_pos (by omega)]
theorem acc_bit (bs : List Int) (pos n i : Nat) (hi : i < n) : accB bs pos n / 2 ^ (n - 1 - i) % 2 = bitAt bs (pos + i) := by
  induction n with
  | zero => omega
  | succ n ih =>
    have b := bitAt_range bs (pos + n)
    simp only [accB]
    by_cases e : i = n
    · subst e
      rw [show i + 1 - 1 - i = 0 by omega]
      simp; omega
    · have k := ih (by omega)
      rw [show n + 1 - 1 - i = (n - 1 - i) + 1 by omega, Int.pow_succ, Int.mul_comm (2 ^ (n - 1 - i)) 2, ← Int.ediv_ediv_of_nonneg (by decide : (0 : Int) ≤ 2)]
      rw [show (2 * accB bs pos n + bitAt bs (pos + n)) / 2 = accB bs pos n by omega]
      exact k
theorem bits_acc (bs : List Int) (pos n : Nat) : bitsOf (accB bs pos n) n = (List.range n).map fun i => decide (bitAt bs (pos + i) = 1) := by
  unfold bitsOf
  apply List.map_congr_left
  intro i hi
  have hi := List.mem_range.1 hi
  unfold vb
  rw [acc_bit bs pos n i hi]
theorem bitsTo_add (bs : List Int) (p n : Nat) : bitsTo bs (p + n) = bitsTo bs p ++ bitsOf (accB bs p n) n := by
  rw [bits_acc]
  unfold bitsTo
  rw [List.range_add, List.map_append, List.map_map]
  rfl
theorem bitsTo_len (bs : List Int) (p : Nat) : (bitsTo bs p).length = p := by simp [bitsTo]
theorem wr_good (L : List Bool) (v n : Int) (h1 : 1 ≤ n ∧ n ≤ 32) (h2 : v < 2 ^ n.toNat) : wrStep L v n = (0, L ++ bitsOf v n.toNat) := by
  unfold wrStep
  rw [if_pos (show okW n = true from decide_eq_true h1), if_pos (show fitsB v n = true from decide_eq_true ⟨h1.1, h1.2, h2⟩)]
theorem byte_bits (x : Int) (h0 : 0 ≤ x) (h1 : x ≤ 255) : x / 128 % 2 * 128 + x / 64 % 2 * 64 + x / 32 % 2 * 32 + x / 16 % 2 * 16 + x / 8 % 2 * 8 + x / 4 % 2 * 4 + x / 2 % 2 * 2 + x % 2 = x := by omega
theorem numsB_range (bs l : List Int) (pos : Nat) (hg : goodL l) : ∀ x ∈ numsB bs pos l, 0 ≤ x ∧ x < 4294967296 := by
  induction l generalizing pos with
  | nil => intro x hx; simp [numsB] at hx
  | cons n t ih =>
    obtain ⟨hn, ht⟩ := goodL_tail hg
    intro x hx
    simp only [numsB, List.mem_cons] at hx
    rcases hx with rfl | hx
    · have r := accB_range bs pos n.toNat
      have p := pow_le32 n hn.2
      omega
    · exact ih _ ht x hx
end Go.Proofs.Ytjhknmklejkknaa
end
section
namespace Go.Proofs.Ytjhknmklejkknaa
open Go.RowKit
set_option linter.unusedVariables false

theorem digit (a0 a1 a2 a3 a4 a5 a6 a7 : Int) (h : (0 ≤ a0 ∧ a0 ≤ 1) ∧ (0 ≤ a1 ∧ a1 ≤ 1) ∧ (0 ≤ a2 ∧ a2 ≤ 1) ∧ (0 ≤ a3 ∧ a3 ≤ 1) ∧ (0 ≤ a4 ∧ a4 ≤ 1) ∧ (0 ≤ a5 ∧ a5 ≤ 1) ∧ (0 ≤ a6 ∧ a6 ≤ 1) ∧ (0 ≤ a7 ∧ a7 ≤ 1)) :
    (a0 * 128 + a1 * 64 + a2 * 32 + a3 * 16 + a4 * 8 + a5 * 4 + a6 * 2 + a7) / 128 % 2 = a0 ∧ (a0 * 128 + a1 * 64 + a2 * 32 + a3 * 16 + a4 * 8 + a5 * 4 + a6 * 2 + a7) / 64 % 2 = a1 ∧
    (a0 * 128 + a1 * 64 + a2 * 32 + a3 * 16 + a4 * 8 + a5 * 4 + a6 * 2 + a7) / 32 % 2 = a2 ∧ (a0 * 128 + a1 * 64 + a2 * 32 + a3 * 16 + a4 * 8 + a5 * 4 + a6 * 2 + a7) / 16 % 2 = a3 ∧
    (a0 * 128 + a1 * 64 + a2 * 32 + a3 * 16 + a4 * 8 + a5 * 4 + a6 * 2 + a7) / 8 % 2 = a4 ∧ (a0 * 128 + a1 * 64 + a2 * 32 + a3 * 16 + a4 * 8 + a5 * 4 + a6 * 2 + a7) / 4 % 2 = a5 ∧
    (a0 * 128 + a1 * 64 + a2 * 32 + a3 * 16 + a4 * 8 + a5 * 4 + a6 * 2 + a7) / 2 % 2 = a6 ∧ (a0 * 128 + a1 * 64 + a2 * 32 + a3 * 16 + a4 * 8 + a5 * 4 + a6 * 2 + a7) % 2 = a7 := by
  refine ⟨?_, ?_, ?_, ?_, ?_, ?_, ?_, ?_⟩ <;> omega
/-- A bit of the packed bytes is the bit that was packed. -/
theorem bit_pack (L : List Bool) (p : Nat) (h : p < L.length) : bitAt (packB L) p = bv L p := by
  unfold bitAt
  rw [packB_get L (p / 8) (by omega)]
  have hd : 8 * (p / 8) + p % 8 = p := Nat.div_add_mod _ _
  have hr : p % 8 < 8 := Nat.mod_lt _ (by decide)
  generalize hq : p / 8 = q at *
  generalize hm : p % 8 = m at *
  have D := digit (bv L (8 * q)) (bv L (8 * q + 1)) (bv L (8 * q + 2)) (bv L (8 * q + 3)) (bv L (8 * q + 4)) (bv L (8 * q + 5)) (bv L (8 * q + 6)) (bv L (8 * q + 7))
    ⟨bv_range _ _, bv_range _ _, bv_range _ _, bv_range _ _, bv_range _ _, bv_range _ _, bv_range _ _, bv_range _ _⟩
  have cs : m = 0 ∨ m = 1 ∨ m = 2 ∨ m = 3 ∨ m = 4 ∨ m = 5 ∨ m = 6 ∨ m = 7 := by omega
  unfold byteAt
  rcases cs with e | e | e | e | e | e | e | e
  · subst e; rw [← hd]; simpa using D.1
  · subst e; rw [← hd]; simpa using D.2.1
  · subst e; rw [← hd]; simpa using D.2.2.1
  · subst e; rw [← hd]; simpa using D.2.2.2.1
  · subst e; rw [← hd]; simpa using D.2.2.2.2.1
  · subst e; rw [← hd]; simpa using D.2.2.2.2.2.1
  · subst e; rw [← hd]; simpa using D.2.2.2.2.2.2.1
  · subst e; rw [← hd]; simpa using D.2.2.2.2.2.2.2
theorem acc_of (bs : List Int) (pos n : Nat) (v : Int) (h0 : 0 ≤ v) (h1 : v < 2 ^ n) (h : ∀ i, i < n → bitAt bs (pos + i) = v / 2 ^ (n - 1 - i) % 2) : accB bs pos n = v := by
  induction n generalizing v with
  | zero => simp at h1; simp only [accB]; omega
  | succ n ih =>
    have k := ih (v / 2) (by omega) (by rw [Int.pow_succ] at h1; omega) (by
      intro i hi
      have e := h i (by omega)
      rw [show n + 1 - 1 - i = (n - 1 - i) + 1 by omega, Int.pow_succ, Int.mul_comm (2 ^ (n - 1 - i)) 2, ← Int.ediv_ediv_of_nonneg (by decide : (0 : Int) ≤ 2)] at e
      exact e)
    have e := h n (by omega)
    rw [show n + 1 - 1 - n = 0 by omega] at e
    simp only [accB]
    rw [k, e]
    simp
    omega

end Go.Proofs.Ytjhknmklejkknaa
end
