/- Several texts in one: IoA, IoB, IoC, IoW, IoX, IoY, IoZ, IoP, IoQ, IoU, IoV, IoS, IoPa, IoRt. -/
import Derived.Test.YtglgjkggjpfahaaGlA
import Derived.Deep.QuietTactic
import Derived.BigQuiet
import Derived.Laws.AppendOwnNone
import Derived.WalkLawsBesides
import Derived.StillTailTactics
import Derived.BigRegion
import Derived.RegionTactic
section
namespace Go.Proofs.Ytglgjkggjpfahaa
open Go.RowKit

/-- Bit pos of the bytes bs, the first one being bit 7 of the first byte. -/
def bitAt (bs : List Int) (pos : Nat) : Int := bs.getD (pos / 8) 0 / 2 ^ (7 - pos % 8) % 2

theorem u8_one (x : Int) (h0 : 0 ≤ x) (h1 : x < 256) : bits .and .u8 x 1 = x % 2 := by
  have := bits_mask .u8 8 (by decide) wraps_u8 1 (by decide) x h0 (by simpa using h1)
  simpa using this
theorem bit_eq (bs : List Int) (pos : Nat) (x : Int) (hx : bs.getD (pos / 8) 0 = x) (h0 : 0 ≤ x) (h1 : x ≤ 255) : bitAt bs pos = bits .and .u8 (x / 2 ^ (7 - pos % 8)) 1 % 4294967296 := by
  have hp := pow_pos' (7 - pos % 8)
  have a := Int.ediv_nonneg h0 (Int.le_of_lt hp)
  have b := Int.ediv_le_self (2 ^ (7 - pos % 8)) h0
  rw [u8_one _ a (by omega)]
  unfold bitAt; rw [hx]
  omega
theorem nextBit_any (w : World) (s g cap : Nat) (bs : List Int) (pos : Nat) (x : Int) (hs : IsB w s 106 #[.slice (some ⟨g, 0, none⟩) bs.length cap, .int .i64 pos])
    (hd : w.cell? ⟨g, pos / 8, none⟩ = some (.int .u8 x)) (hx : bs.getD (pos / 8) 0 = x) (hx0 : 0 ≤ x) (hx1 : x ≤ 255) (hp : pos < 8 * bs.length) (hl : bs.length ≤ 60000) :
    Calls Try.prog 100 #[.pointer (some ⟨s, 0, none⟩)] w (RetQ (.int .u32 (bitAt bs pos)) w (some s) fun w' => IsB w' s 106 #[.slice (some ⟨g, 0, none⟩) bs.length cap, .int .i64 (pos + 1 : Nat)]) := by
  have c0 : w.cell? ⟨s, 0, none⟩ = some (.slice (some ⟨g, 0, none⟩) bs.length cap) := hs.cell 0
  have c1 : w.cell? ⟨s, 1, none⟩ = some (.int .i64 pos) := hs.cell 1
  have f1 := hs.free 1
  have HX := Lib.hid hx
  clear hx
  have i0 : (pos : Int) / 8 < bs.length := by omega
  go_enter Try.func100, Try.ntmps100
  go_wp2
  go_quiet (fail)
  go_wp2
  go_ret
  refine ⟨ret_i ?_, gb_trans (gb_drewN w nq _) (gb_set _ _ _ _), ?_⟩
  · rw [← bit_eq bs pos x HX.out hx0 hx1]
  · have k := (hs.keep0 (gb_drewN w nq none)).set 1 (.int .i64 ((pos : Int) + 1))
    simpa using k

/-- A reader in memory: the block that the caller holds, the block of its state, and the bytes that it owns. -/
structure Rdr (w : World) (base r s : Nat) (V : Value) (bs : List Int) (pos : Nat) : Prop where
  rb : IsB w r 108 #[.pointer (some ⟨s, 0, none⟩)]
  sb : IsB w s 106 #[V, .int .i64 pos]
  own : w.ownsRow base 5 1 V bs.length (bs.map (Value.int .u8))
theorem Rdr.keep0 {w w2 : World} {base r s : Nat} {V : Value} {bs : List Int} {pos : Nat} (h : Rdr w base r s V bs pos) (k : w.grownBy w2 none) : Rdr w2 base r s V bs pos :=
  ⟨h.rb.keep0 k, h.sb.keep0 k, own_keep0 h.own k⟩
theorem Rdr.step {w w2 : World} {base r s : Nat} {V : Value} {bs : List Int} {pos pos2 : Nat} (h : Rdr w base r s V bs pos) (k : w.grownBy w2 (some s)) (hs : IsB w2 s 106 #[V, .int .i64 pos2]) : Rdr w2 base r s V bs pos2 :=
  ⟨h.rb.keepS k h.sb (by decide), hs, own_keepS h.own k h.sb (by decide)⟩
theorem rmade_yes (w : World) (r : Nat) (a : Addr) (h : IsB w r 108 #[.pointer (some a)]) :
    Calls Try.prog 68 #[.pointer (some ⟨r, 0, none⟩)] w fun e w' => e = .returned (.bool true) ∧ w = w' := by
  have c0 : w.cell? ⟨r, 0, none⟩ = some (.pointer (some a)) := h.cell 0
  go_enter Try.func68, Try.ntmps68
  go_wp2
  go_ret
  exact ⟨rfl, rfl⟩
theorem rmade_nil (w : World) : Calls Try.prog 68 #[.pointer none] w fun e w' => e = .returned (.bool false) ∧ w = w' := by
  go_enter Try.func68, Try.ntmps68
  go_wp2
  go_ret
  exact ⟨rfl, rfl⟩
theorem rmade_raw (w : World) (r : Nat) (h : IsB w r 108 #[.pointer none]) :
    Calls Try.prog 68 #[.pointer (some ⟨r, 0, none⟩)] w fun e w' => e = .returned (.bool false) ∧ w = w' := by
  have c0 : w.cell? ⟨r, 0, none⟩ = some (.pointer none) := h.cell 0
  go_enter Try.func68, Try.ntmps68
  go_wp2
  go_ret
  exact ⟨rfl, rfl⟩
theorem fits0h (w : Int) : fitsB 0 w = okW w := by
  unfold fitsB okW; rw [decide_eq_decide]
  have := pow_pos' w.toNat
  omega
theorem iovalid_any (n : Int) (w : World) : Calls Try.prog 98 #[.int .i64 n] w (RetQ (.bool (okW n)) w none fun _ => True) := by
  go_enter Try.func98, Try.ntmps98
  go_wp2_with (go_at_call 106; refine (fits_any _ _ _).mono ?_; rintro e w' ⟨rfl, g⟩)
  go_ret
  exact ⟨ret_b (fits0h n), gb_gr (by assumption) _, trivial⟩
theorem remaining_any (w : World) (s : Nat) (a : Option Addr) (n c pos : Nat) (h : IsB w s 106 #[.slice a n c, .int .i64 pos]) (hn : n ≤ 60000) (hp : pos ≤ 8 * n) :
    Calls Try.prog 99 #[.pointer (some ⟨s, 0, none⟩)] w (RetQ (.int .i64 ((n : Int) * 8 - pos)) w none fun _ => True) := by
  have c0 : w.cell? ⟨s, 0, none⟩ = some (.slice a n c) := h.cell 0
  have c1 : w.cell? ⟨s, 1, none⟩ = some (.int .i64 pos) := h.cell 1
  go_enter Try.func99, Try.ntmps99
  go_wp2
  go_quiet (fail)
  go_wp2
  go_ret
  exact ⟨ret_i rfl, gb_drewN _ _ _, trivial⟩
theorem Remaining_any (w : World) (base r s : Nat) (V : Value) (bs : List Int) (pos : Nat) (h : Rdr w base r s V bs pos) (hn : bs.length ≤ 60000) (hp : pos ≤ 8 * bs.length) :
    Calls Try.prog 66 #[.pointer (some ⟨r, 0, none⟩)] w (RetQ (.int .i64 ((bs.length : Int) * 8 - pos)) w none fun _ => True) := by
  obtain ⟨a, c, rfl⟩ := own_shape h.own
  have c0 : w.cell? ⟨r, 0, none⟩ = some (.pointer (some ⟨s, 0, none⟩)) := h.rb.cell 0
  go_enter Try.func66, Try.ntmps66
  go_wp2_with (first | (go_at_call 68; refine (rmade_yes _ _ _ h.rb).mono ?_; rintro e w' ⟨rfl, rfl⟩) | (go_at_call 99; refine (remaining_any _ _ _ _ _ _ h.sb hn hp).mono ?_; rintro e w' ⟨rfl, g, _⟩))
  go_ret
  exact ⟨ret_i rfl, by assumption, trivial⟩
theorem Remaining_nil (w : World) : Calls Try.prog 66 #[.pointer none] w (RetQ (.int .i64 0) w none fun _ => True) := by
  go_enter Try.func66, Try.ntmps66
  go_wp2_with (go_at_call 68; refine (rmade_nil _).mono ?_; rintro e w' ⟨rfl, rfl⟩)
  go_ret
  exact ⟨rfl, gb_refl _ _, trivial⟩
theorem Remaining_raw (w : World) (r : Nat) (h : IsB w r 108 #[.pointer none]) : Calls Try.prog 66 #[.pointer (some ⟨r, 0, none⟩)] w (RetQ (.int .i64 0) w none fun _ => True) := by
  go_enter Try.func66, Try.ntmps66
  go_wp2_with (go_at_call 68; refine (rmade_raw _ _ h).mono ?_; rintro e w' ⟨rfl, rfl⟩)
  go_ret
  exact ⟨rfl, gb_refl _ _, trivial⟩
end Go.Proofs.Ytglgjkggjpfahaa
end
section
namespace Go.Proofs.Ytglgjkggjpfahaa
open Go.RowKit

/-- The number that the k bits from pos on make. -/
def accB (bs : List Int) (pos : Nat) : Nat → Int
  | 0 => 0
  | k + 1 => 2 * accB bs pos k + bitAt bs (pos + k)
theorem bitAt_range (bs : List Int) (p : Nat) : 0 ≤ bitAt bs p ∧ bitAt bs p ≤ 1 := by unfold bitAt; omega
theorem accB_range (bs : List Int) (pos k : Nat) : 0 ≤ accB bs pos k ∧ accB bs pos k < 2 ^ k := by
  induction k with
  | zero => simp [accB]
  | succ k ih =>
    have := bitAt_range bs (pos + k)
    simp only [accB, Int.pow_succ]
    omega
theorem acc_step (bs : List Int) (pos k : Nat) (hk : k < 32) : bits .or .u32 (accB bs pos k * 2 % 4294967296) (bitAt bs (pos + k)) = accB bs pos (k + 1) := by
  have r := accB_range bs pos k
  have b := bitAt_range bs (pos + k)
  have p := pow_mono (k + 1) 32 (by omega)
  rw [Int.pow_succ] at p
  have p2 : (2 : Int) ^ 32 = 4294967296 := by decide
  rw [Int.emod_eq_of_lt (by omega) (by omega)]
  have j := bits_join .u32 32 (by decide) wraps_u32 1 (accB bs pos k * 2) (bitAt bs (pos + k)) (by omega) (by simp) (by omega) b.1 (by simp; omega) (by omega)
  rw [j]; simp only [accB]; omega

theorem reads_ok (w : World) (base r s : Nat) (V : Value) (bs : List Int) (pos : Nat) (n : Int) (h : Rdr w base r s V bs pos) (hb : ∀ b ∈ bs, 0 ≤ b ∧ b ≤ 255) (hn : bs.length ≤ 60000)
    (h1 : 1 ≤ n) (h2 : n ≤ 32) (hp : (pos : Int) + n ≤ 8 * bs.length) :
    Calls Try.prog 65 #[.pointer (some ⟨r, 0, none⟩), .int .i64 n] w (RetQ (.tuple #[.int .u32 (accB bs pos n.toNat), .int .i64 0]) w (some s) fun w' => Rdr w' base r s V bs (pos + n.toNat)) := by
  obtain ⟨g, c, rfl⟩ := own_head h.own (by omega)
  have c0 : w.cell? ⟨r, 0, none⟩ = some (.pointer (some ⟨s, 0, none⟩)) := h.rb.cell 0
  have HV := Lib.hid (show okW n = true by simp [okW, h1, h2])
  have hle : ¬ (bs.length : Int) * 8 - pos < n := by omega
  have hm := (iovalid_any n w)
  rw [HV.out] at hm
  have HM := Lib.hid hm
  clear hm
  go_enter Try.func65, Try.ntmps65
  go_wp2_with fail
  refine (rmade_yes _ _ _ h.rb).mono ?_
  rintro e w1 ⟨rfl, rfl⟩
  go_wp2_with fail
  refine HM.out.mono ?_
  rintro e w2 ⟨rfl, g2, _⟩
  have h3 := h.keep0 g2
  have c3 : w2.cell? ⟨r, 0, none⟩ = some (.pointer (some ⟨s, 0, none⟩)) := h3.rb.cell 0
  go_wp2_with fail
  refine (remaining_any _ _ _ _ _ _ h3.sb hn (by omega)).mono ?_
  rintro e w3 ⟨rfl, g3, _⟩
  have h4 := h3.keep0 g3
  have g4 := gb_any (row := some s) (gb_trans g2 g3)
  clear g2 g3 h3 c3 c0
  go_wp2_with fail
  go_loopw [6, 21] (fun v i wr => ∃ k : Nat, k ≤ n.toNat ∧ v = .int .u32 (accB bs pos k) ∧ i = .int .i64 k ∧ Rdr wr base r s (.slice (some ⟨g, 0, none⟩) bs.length c) bs (pos + k) ∧ w.grownBy wr (some s)) (fun _ i _ => n.toNat - (intOf i).toNat)
  case atStart => exact ⟨0, Nat.zero_le _, rfl, rfl, h4, g4⟩
  case round =>
    obtain ⟨k, hk, rfl, rfl, hr, hg⟩ := hrel
    clear h4 g4 h
    by_cases hlt : (k : Int) < n
    · have c5 : wr.cell? ⟨r, 0, none⟩ = some (.pointer (some ⟨s, 0, none⟩)) := hr.rb.cell 0
      have hd := own_cell hr.own ((pos + k) / 8) (by omega)
      have hx := hb (bs.getD ((pos + k) / 8) 0) (by rw [List.getD_eq_getElem?_getD, List.getElem?_eq_getElem (by omega)]; exact List.getElem_mem _)
      have HN := Lib.hid (nextBit_any wr s g c bs (pos + k) _ hr.sb hd rfl hx.1 hx.2 (by omega) hn)
      have HS := Lib.hid (acc_step bs pos k (by omega))
      have HR := Lib.hid hr
      clear hd hx hr
      go_wp2_with fail
      refine HN.out.mono ?_
      rintro e w5 ⟨rfl, g5, q5⟩
      go_wp2
      go_roundw
      case rel => exact ⟨k + 1, by omega, by rw [HS.out], by go_num, HR.out.step g5 q5, gb_trans hg g5⟩
      case measure => simp [intOf]; omega
    · have EK := Lib.hid (show k = n.toNat by omega)
      go_wp2
      go_ret2
      exact ⟨ret_ii (by rw [EK.out]) rfl, hg, by rw [← EK.out]; exact hr⟩

theorem reads_width (w : World) (base r s : Nat) (V : Value) (bs : List Int) (pos : Nat) (n : Int) (h : Rdr w base r s V bs pos) (hv : okW n = false) :
    Calls Try.prog 65 #[.pointer (some ⟨r, 0, none⟩), .int .i64 n] w (RetQ (.tuple #[.int .u32 0, .int .i64 10]) w (some s) fun w' => Rdr w' base r s V bs pos) := by
  have hm := (iovalid_any n w)
  rw [hv] at hm
  have HM := Lib.hid hm
  clear hm hv
  go_enter Try.func65, Try.ntmps65
  go_wp2_with fail
  refine (rmade_yes _ _ _ h.rb).mono ?_
  rintro e w1 ⟨rfl, rfl⟩
  go_wp2_with fail
  refine HM.out.mono ?_
  rintro e w2 ⟨rfl, g2, _⟩
  have h3 := h.keep0 g2
  go_wp2
  go_ret2
  exact ⟨rfl, gb_any g2, h3⟩
theorem reads_short (w : World) (base r s : Nat) (V : Value) (bs : List Int) (pos : Nat) (n : Int) (h : Rdr w base r s V bs pos) (hn : bs.length ≤ 60000)
    (h1 : 1 ≤ n) (h2 : n ≤ 32) (hq : pos ≤ 8 * bs.length) (hp : 8 * (bs.length : Int) < pos + n) :
    Calls Try.prog 65 #[.pointer (some ⟨r, 0, none⟩), .int .i64 n] w (RetQ (.tuple #[.int .u32 0, .int .i64 3]) w (some s) fun w' => Rdr w' base r s V bs pos) := by
  obtain ⟨a, c, rfl⟩ := own_shape h.own
  have HV := Lib.hid (show okW n = true by simp [okW, h1, h2])
  have hle : (bs.length : Int) * 8 - pos < n := by omega
  have hm := (iovalid_any n w)
  rw [HV.out] at hm
  have HM := Lib.hid hm
  clear hm
  go_enter Try.func65, Try.ntmps65
  go_wp2_with fail
  refine (rmade_yes _ _ _ h.rb).mono ?_
  rintro e w1 ⟨rfl, rfl⟩
  go_wp2_with fail
  refine HM.out.mono ?_
  rintro e w2 ⟨rfl, g2, _⟩
  have h3 := h.keep0 g2
  have c3 : w2.cell? ⟨r, 0, none⟩ = some (.pointer (some ⟨s, 0, none⟩)) := h3.rb.cell 0
  go_wp2_with fail
  refine (remaining_any _ _ _ _ _ _ h3.sb hn (by omega)).mono ?_
  rintro e w3 ⟨rfl, g3, _⟩
  have h4 := h3.keep0 g3
  have g4 := gb_any (row := some s) (gb_trans g2 g3)
  clear g2 g3 h3 c3
  go_wp2
  go_ret2
  exact ⟨rfl, g4, h4⟩
theorem reads_nil (w : World) (n : Int) : Calls Try.prog 65 #[.pointer none, .int .i64 n] w (RetQ (.tuple #[.int .u32 0, .int .i64 1]) w none fun _ => True) := by
  go_enter Try.func65, Try.ntmps65
  go_wp2_with (go_at_call 68; refine (rmade_nil _).mono ?_; rintro e w' ⟨rfl, rfl⟩)
  go_ret2
  exact ⟨rfl, gb_refl _ _, trivial⟩
theorem reads_raw (w : World) (r : Nat) (n : Int) (h : IsB w r 108 #[.pointer none]) : Calls Try.prog 65 #[.pointer (some ⟨r, 0, none⟩), .int .i64 n] w (RetQ (.tuple #[.int .u32 0, .int .i64 1]) w none fun _ => True) := by
  go_enter Try.func65, Try.ntmps65
  go_wp2_with (go_at_call 68; refine (rmade_raw _ _ h).mono ?_; rintro e w' ⟨rfl, rfl⟩)
  go_ret2
  exact ⟨rfl, gb_refl _ _, trivial⟩
end Go.Proofs.Ytglgjkggjpfahaa
end
section
namespace Go.Proofs.Ytglgjkggjpfahaa
open Go.RowKit

/-- The call returns a slice of bytes of its own and no error. -/
def RetSh (bs : List Int) (w : World) (base : Nat) (e : Ending) (w' : World) : Prop :=
  ∃ v', e = .returned (.tuple #[v', .int .i64 0]) ∧ w.grownBy w' none ∧ w'.ownsRow base 5 1 v' bs.length (bs.map (Value.int .u8)) ∧ (bs = [] → v' = .slice none 0 0)

/-- The call returns a reader at the first bit of its own copy. -/
def NewR (bs : List Int) (w : World) (e : Ending) (w' : World) : Prop :=
  ∃ r s V, e = .returned (.pointer (some ⟨r, 0, none⟩)) ∧ w.grownBy w' none ∧ Rdr w' w.heap.size r s V bs 0 ∧ (bs = [] → V = .slice none 0 0) ∧ w.heap.size ≤ r ∧ w.heap.size ≤ s

theorem newR_close (w w1 : World) (V : Value) (bs : List Int) (hg : w.grownBy w1 none) (hown : w1.ownsRow w.heap.size 5 1 V bs.length (bs.map (Value.int .u8))) (hnil : bs = [] → V = .slice none 0 0) :
    NewR bs w (.returned (.pointer (some ⟨w1.heap.size + 1, 0, none⟩))) ((w1.alloc (.cells #[V, .int .i64 0] 106)).alloc (.cells #[.pointer (some ⟨w1.heap.size, 0, none⟩)] 108)) := by
  have e : (w1.alloc (.cells #[V, .int .i64 0] 106)).heap.size = w1.heap.size + 1 := by simp
  have hs := hg.size
  refine ⟨w1.heap.size + 1, w1.heap.size, V, rfl, gb_trans (gb_trans hg (gb_alloc _ _ _)) (gb_alloc _ _ _), ⟨?_, ?_, ?_⟩, hnil, by omega, hs⟩
  · have k := IsB.new (w1.alloc (.cells #[V, .int .i64 0] 106)) 108 #[.pointer (some ⟨w1.heap.size, 0, none⟩)]
    rw [e] at k; exact k
  · exact (IsB.new w1 106 #[V, .int .i64 0]).alloc _
  · exact (hown.alloc _).alloc _

theorem newReader_any (w : World) (a : Option Addr) (n c : Nat) (bs : List Int) (h : SlR w a n c (bs.map (Value.int .u8))) (hn : bs.length ≤ 60000) :
    Calls Try.prog 39 #[.slice a n c] w (NewR bs w) := by
  obtain ⟨i0, hi, hz0, hz1, hz2⟩ := info_parts infoU8
  obtain ⟨hl, hno, hc⟩ := h
  have hl : bs.length = n := by simpa using hl
  subst hl
  cases a with
  | none =>
    obtain ⟨h0, rfl⟩ := hno rfl
    have hbs : bs = [] := List.length_eq_zero_iff.1 h0
    subst hbs
    have HI := Lib.hid hi
    clear hno hc hn hz0 hz1 hz2 hi h0
    go_enter Try.func39, Try.ntmps39
    go_wp2_with (at_builtin; refine wpList_append_own_none rfl _ _ 37 rfl w.heap.size 5 i0 1 Try.underlying37 HI.out _ _ _ rfl (World.ownsRow_nil _ _ _ _) rfl ?_)
    go_ret
    exact newR_close w w (.slice none 0 0) [] (gb_refl _ _) (World.ownsRow_nil _ _ _ _) (fun _ => rfl)
  | some ad =>
    have HC := Lib.hid (hc ad rfl)
    have HI := Lib.hid hi
    clear hno hc hi
    go_enter Try.func39, Try.ntmps39
    go_wp2_with (at_builtin; refine wpList_append_own _ rfl _ _ 37 rfl w.heap.size 5 i0 (.int .u8 0) 1 1 Try.underlying37 HI.out hz0 hz1 hz2 rfl (by decide) _ 0 [] rfl (World.ownsRow_nil _ _ _ _) ad bs.length c (bs.map (Value.int .u8)) rfl ?c1 HC.out (ints_one _ _) ?c3 ?c4 ?c5 ?_)
    case c1 => simp
    case c3 => unfold maxLen; omega
    case c4 => omega
    case c5 => exact Nat.le_refl _
    · intro v' w1 hown hg hiff
      try simp only [List.nil_append, Nat.zero_add] at hown
      obtain ⟨a2, c2, rfl⟩ := own_shape hown
      have HO := Lib.hid hown
      have HF := Lib.hid hiff
      clear hown hiff hz0 hz1 hz2 HC HI hl
      go_wp2
      go_ret
      exact newR_close w w1 _ bs hg HO.out (fun e => HF.out.2 e)

end Go.Proofs.Ytglgjkggjpfahaa
end
section
namespace Go.Proofs.Ytglgjkggjpfahaa
open Go.RowKit

/-- Changed are at most blocks from base on that hold bytes or a writer's state; all else below the heap's size stands. -/
structure GTh (base : Nat) (w w' : World) : Prop where
  os : w'.os = w.os
  tape : w'.tape = w.tape
  output : w'.output = w.output
  size : w.heap.size ≤ w'.heap.size
  low : ∀ k, k < w.heap.size → k < base → w'.heap[k]? = w.heap[k]?
  kind : ∀ g t cs, IsB w g t cs → t ≠ 5 → t ≠ 135 → IsB w' g t cs
theorem GTh.refl (base : Nat) (w : World) : GTh base w w := ⟨rfl, rfl, rfl, Nat.le_refl _, fun _ _ _ => rfl, fun _ _ _ h _ _ => h⟩
theorem GTh.trans {base : Nat} {a b c : World} (h : GTh base a b) (k : GTh base b c) : GTh base a c :=
  ⟨k.os.trans h.os, k.tape.trans h.tape, k.output.trans h.output, Nat.le_trans h.size k.size, fun i hi hb => (k.low i (Nat.lt_of_lt_of_le hi h.size) hb).trans (h.low i hi hb), fun g t cs hg h1 h2 => k.kind g t cs (h.kind g t cs hg h1 h2) h1 h2⟩
theorem GTh.of0 {base : Nat} {w w2 : World} (k : w.grownBy w2 none) : GTh base w w2 := ⟨k.os, k.tape, k.output, k.size, fun i hi _ => k.block i hi (by simp), fun _ _ _ hg _ _ => hg.keep0 k⟩
theorem GTh.ofRow {base : Nat} {w w2 : World} {g : Nat} {t : TypeId} {cs : Array Value} (k : w.grownBy w2 (some g)) (hg : IsB w g t cs) (ht : t = 5 ∨ t = 135) (hb : base ≤ g) : GTh base w w2 :=
  ⟨k.os, k.tape, k.output, k.size, fun i hi hl => k.block i hi (by intro e; injection e with e; omega), fun g2 t2 cs2 h2 n1 n2 => h2.keep k (by
    intro e; injection e with e; subst e
    have e2 : t2 = t := by unfold IsB at hg h2; rw [hg] at h2; simp at h2; exact h2.2.symm
    rcases ht with ht | ht
    · exact n1 (e2.trans ht)
    · exact n2 (e2.trans ht))⟩
theorem GTh.ofOwn {base : Nat} {w w2 : World} {size n : Nat} {v : Value} {xs : List Value} (k : w.grownBy w2 v.ownBlock) (hv : w.ownsRow base 5 size v n xs) : GTh base w w2 := by
  rcases hv.2 with ⟨rfl, _⟩ | ⟨g, cap, cur, rfl, hg, hh, _⟩
  · exact GTh.of0 k
  · exact GTh.ofRow (g := g) k (t := 5) (cs := cur) hh (.inl rfl) hg
theorem GTh.below {base : Nat} {w w2 : World} (h : GTh base w w2) (hb : base ≤ w.heap.size) : Below base w w2 := ⟨h.os, h.tape, h.output, h.size, fun k hk => h.low k (by omega) hk⟩

def bv (L : List Bool) (p : Nat) : Int := if L.getD p false then 1 else 0
def byteAt (L : List Bool) (i : Nat) : Int :=
  bv L (8 * i) * 128 + bv L (8 * i + 1) * 64 + bv L (8 * i + 2) * 32 + bv L (8 * i + 3) * 16 + bv L (8 * i + 4) * 8 + bv L (8 * i + 5) * 4 + bv L (8 * i + 6) * 2 + bv L (8 * i + 7)
/-- The bytes that a list of bits makes, its last one filled with zeros. -/
def packB (L : List Bool) : List Int := (List.range ((L.length + 7) / 8)).map (byteAt L)
theorem bv_range (L : List Bool) (p : Nat) : 0 ≤ bv L p ∧ bv L p ≤ 1 := by unfold bv; split <;> omega
theorem bv_out (L : List Bool) (p : Nat) (h : L.length ≤ p) : bv L p = 0 := by unfold bv; simp [List.getElem?_eq_none h]
theorem bv_old (L : List Bool) (b : Bool) (p : Nat) (h : p ≠ L.length) : bv (L ++ [b]) p = bv L p := by
  unfold bv
  rcases Nat.lt_or_ge p L.length with hl | hl
  · simp [List.getElem?_append_left hl]
  · have : L.length + 1 ≤ p := by omega
    simp [List.getElem?_eq_none hl, List.getElem?_eq_none (show (L ++ [b]).length ≤ p by simpa using this)]
theorem bv_new (L : List Bool) (b : Bool) : bv (L ++ [b]) L.length = if b then 1 else 0 := by unfold bv; simp
theorem byteAt_range (L : List Bool) (i : Nat) : 0 ≤ byteAt L i ∧ byteAt L i ≤ 255 := by
  have h0 := bv_range L (8 * i); have h1 := bv_range L (8 * i + 1); have h2 := bv_range L (8 * i + 2); have h3 := bv_range L (8 * i + 3)
  have h4 := bv_range L (8 * i + 4); have h5 := bv_range L (8 * i + 5); have h6 := bv_range L (8 * i + 6); have h7 := bv_range L (8 * i + 7)
  unfold byteAt; omega
theorem byteAt_old (L : List Bool) (b : Bool) (i : Nat) (h : i ≠ L.length / 8) : byteAt (L ++ [b]) i = byteAt L i := by
  unfold byteAt
  rw [bv_old L b _ (by omega), bv_old L b _ (by omega), bv_old L b _ (by omega), bv_old L b _ (by omega), bv_old L b _ (by omega), bv_old L b _ (by omega), bv_old L b _ (by omega), bv_old L b _ (by omega)]
/-- The new bit joins the byte that it belongs to. -/
theorem byteAt_new (L : List Bool) (b : Bool) : bits .or .u8 (byteAt L (L.length / 8)) ((if b then 1 else 0) * 2 ^ (7 - L.length % 8)) = byteAt (L ++ [b]) (L.length / 8) := by
  have hb : (0 : Int) ≤ (if b then 1 else 0) ∧ (if b then (1 : Int) else 0) ≤ 1 := by cases b <;> simp
  have hn := bv_new L b
  generalize (if b then (1 : Int) else 0) = v at *
  have hj := fun (i : Nat) (x y : Int) => bits_join .u8 8 (by decide) wraps_u8 i x y
  have hr : L.length % 8 < 8 := Nat.mod_lt _ (by decide)
  have hd : 8 * (L.length / 8) + L.length % 8 = L.length := Nat.div_add_mod _ _
  generalize hq : L.length / 8 = q at *
  have h0 := bv_range L (8 * q); have h1 := bv_range L (8 * q + 1); have h2 := bv_range L (8 * q + 2); have h3 := bv_range L (8 * q + 3)
  have h4 := bv_range L (8 * q + 4); have h5 := bv_range L (8 * q + 5); have h6 := bv_range L (8 * q + 6); have h7 := bv_range L (8 * q + 7)
  have cs : L.length % 8 = 0 ∨ L.length % 8 = 1 ∨ L.length % 8 = 2 ∨ L.length % 8 = 3 ∨ L.length % 8 = 4 ∨ L.length % 8 = 5 ∨ L.length % 8 = 6 ∨ L.length % 8 = 7 := by omega
  unfold byteAt
  rcases cs with e | e | e | e | e | e | e | e <;> rw [e] at hd ⊢
  · have z0 := bv_out L (8 * q) (by omega); have z1 := bv_out L (8 * q + 1) (by omega); have z2 := bv_out L (8 * q + 2) (by omega); have z3 := bv_out L (8 * q + 3) (by omega)
    have z4 := bv_out L (8 * q + 4) (by omega); have z5 := bv_out L (8 * q + 5) (by omega); have z6 := bv_out L (8 * q + 6) (by omega); have z7 := bv_out L (8 * q + 7) (by omega)
    rw [show bv (L ++ [b]) (8 * q) = v by rw [show 8 * q = L.length by omega, hn], bv_old L b (8 * q + 1) (by omega), bv_old L b (8 * q + 2) (by omega), bv_old L b (8 * q + 3) (by omega), bv_old L b (8 * q + 4) (by omega), bv_old L b (8 * q + 5) (by omega), bv_old L b (8 * q + 6) (by omega), bv_old L b (8 * q + 7) (by omega)]
    rw [z0, z1, z2, z3, z4, z5, z6, z7]
    rw [hj 8 _ _ (by omega) (by omega) (by omega) (by omega) (by omega) (by omega)]; omega
  · have z1 := bv_out L (8 * q + 1) (by omega); have z2 := bv_out L (8 * q + 2) (by omega); have z3 := bv_out L (8 * q + 3) (by omega); have z4 := bv_out L (8 * q + 4) (by omega); have z5 := bv_out L (8 * q + 5) (by omega); have z6 := bv_out L (8 * q + 6) (by omega); have z7 := bv_out L (8 * q + 7) (by omega)
    rw [bv_old L b (8 * q) (by omega), show bv (L ++ [b]) (8 * q + 1) = v by rw [show 8 * q + 1 = L.length by omega, hn], bv_old L b (8 * q + 2) (by omega), bv_old L b (8 * q + 3) (by omega), bv_old L b (8 * q + 4) (by omega), bv_old L b (8 * q + 5) (by omega), bv_old L b (8 * q + 6) (by omega), bv_old L b (8 * q + 7) (by omega)]
    rw [z1, z2, z3, z4, z5, z6, z7]
    rw [hj 7 _ _ (by omega) (by omega) (by omega) (by omega) (by omega) (by omega)]; omega
  · have z2 := bv_out L (8 * q + 2) (by omega); have z3 := bv_out L (8 * q + 3) (by omega); have z4 := bv_out L (8 * q + 4) (by omega); have z5 := bv_out L (8 * q + 5) (by omega); have z6 := bv_out L (8 * q + 6) (by omega); have z7 := bv_out L (8 * q + 7) (by omega)
    rw [bv_old L b (8 * q) (by omega), bv_old L b (8 * q + 1) (by omega), show bv (L ++ [b]) (8 * q + 2) = v by rw [show 8 * q + 2 = L.length by omega, hn], bv_old L b (8 * q + 3) (by omega), bv_old L b (8 * q + 4) (by omega), bv_old L b (8 * q + 5) (by omega), bv_old L b (8 * q + 6) (by omega), bv_old L b (8 * q + 7) (by omega)]
    rw [z2, z3, z4, z5, z6, z7]
    rw [hj 6 _ _ (by omega) (by omega) (by omega) (by omega) (by omega) (by omega)]; omega
  · have z3 := bv_out L (8 * q + 3) (by omega); have z4 := bv_out L (8 * q + 4) (by omega); have z5 := bv_out L (8 * q + 5) (by omega); have z6 := bv_out L (8 * q + 6) (by omega); have z7 := bv_out L (8 * q + 7) (by omega)
    rw [bv_old L b (8 * q) (by omega), bv_old L b (8 * q + 1) (by omega), bv_old L b (8 * q + 2) (by omega), show bv (L ++ [b]) (8 * q + 3) = v by rw [show 8 * q + 3 = L.length by omega, hn], bv_old L b (8 * q + 4) (by omega), bv_old L b (8 * q + 5) (by omega), bv_old L b (8 * q + 6) (by omega), bv_old L b (8 * q + 7) (by omega)]
    rw [z3, z4, z5, z6, z7]
    rw [hj 5 _ _ (by omega) (by omega) (by omega) (by omega) (by omega) (by omega)]; omega
  · have z4 := bv_out L (8 * q + 4) (by omega); have z5 := bv_out L (8 * q + 5) (by omega); have z6 := bv_out L (8 * q + 6) (by omega); have z7 := bv_out L (8 * q + 7) (by omega)
    rw [bv_old L b (8 * q) (by omega), bv_old L b (8 * q + 1) (by omega), bv_old L b (8 * q + 2) (by omega), bv_old L b (8 * q + 3) (by omega), show bv (L ++ [b]) (8 * q + 4) = v by rw [show 8 * q + 4 = L.length by omega, hn], bv_old L b (8 * q + 5) (by omega), bv_old L b (8 * q + 6) (by omega), bv_old L b (8 * q + 7) (by omega)]
    rw [z4, z5, z6, z7]
    rw [hj 4 _ _ (by omega) (by omega) (by omega) (by omega) (by omega) (by omega)]; omega
  · have z5 := bv_out L (8 * q + 5) (by omega); have z6 := bv_out L (8 * q + 6) (by omega); have z7 := bv_out L (8 * q + 7) (by omega)
    rw [bv_old L b (8 * q) (by omega), bv_old L b (8 * q + 1) (by omega), bv_old L b (8 * q + 2) (by omega), bv_old L b (8 * q + 3) (by omega), bv_old L b (8 * q + 4) (by omega), show bv (L ++ [b]) (8 * q + 5) = v by rw [show 8 * q + 5 = L.length by omega, hn], bv_old L b (8 * q + 6) (by omega), bv_old L b (8 * q + 7) (by omega)]
    rw [z5, z6, z7]
    rw [hj 3 _ _ (by omega) (by omega) (by omega) (by omega) (by omega) (by omega)]; omega
  · have z6 := bv_out L (8 * q + 6) (by omega); have z7 := bv_out L (8 * q + 7) (by omega)
    rw [bv_old L b (8 * q) (by omega), bv_old L b (8 * q + 1) (by omega), bv_old L b (8 * q + 2) (by omega), bv_old L b (8 * q + 3) (by omega), bv_old L b (8 * q + 4) (by omega), bv_old L b (8 * q + 5) (by omega), show bv (L ++ [b]) (8 * q + 6) = v by rw [show 8 * q + 6 = L.length by omega, hn], bv_old L b (8 * q + 7) (by omega)]
    rw [z6, z7]
    rw [hj 2 _ _ (by omega) (by omega) (by omega) (by omega) (by omega) (by omega)]; omega
  · have z7 := bv_out L (8 * q + 7) (by omega)
    rw [bv_old L b (8 * q) (by omega), bv_old L b (8 * q + 1) (by omega), bv_old L b (8 * q + 2) (by omega), bv_old L b (8 * q + 3) (by omega), bv_old L b (8 * q + 4) (by omega), bv_old L b (8 * q + 5) (by omega), bv_old L b (8 * q + 6) (by omega), show bv (L ++ [b]) (8 * q + 7) = v by rw [show 8 * q + 7 = L.length by omega, hn]]
    rw [z7]
    rw [hj 1 _ _ (by omega) (by omega) (by omega) (by omega) (by omega) (by omega)]; omega
end Go.Proofs.Ytglgjkggjpfahaa
end
section
namespace Go.Proofs.Ytglgjkggjpfahaa
open Go.RowKit

theorem packB_len (L : List Bool) : (packB L).length = (L.length + 7) / 8 := by simp [packB]
theorem packB_get (L : List Bool) (i : Nat) (h : i < (L.length + 7) / 8) : (packB L).getD i 0 = byteAt L i := by simp [packB, h]
theorem packB_range (L : List Bool) : ∀ x ∈ packB L, 0 ≤ x ∧ x ≤ 255 := by
  intro x hx
  unfold packB at hx
  obtain ⟨i, _, rfl⟩ := List.mem_map.1 hx
  exact byteAt_range L i
theorem packB_at (L : List Bool) (i : Nat) (h : i < (packB L).length) : (packB L)[i] = byteAt L i := by simp [packB]
theorem packB_same (L : List Bool) (b : Bool) (h : L.length % 8 ≠ 0) : packB (L ++ [b]) = (packB L).set (L.length / 8) (byteAt (L ++ [b]) (L.length / 8)) := by
  apply List.ext_getElem
  · rw [List.length_set, packB_len, packB_len, List.length_append, List.length_singleton]; omega
  · intro i h1 h2
    rw [List.getElem_set, packB_at]
    split
    · rename_i e; rw [e]
    · rename_i e; rw [packB_at]; exact byteAt_old L b i (fun e2 => e e2.symm)
theorem packB_more (L : List Bool) (b : Bool) (h : L.length % 8 = 0) : packB (L ++ [b]) = (packB L ++ [0]).set (L.length / 8) (byteAt (L ++ [b]) (L.length / 8)) := by
  apply List.ext_getElem
  · rw [List.length_set, List.length_append, packB_len, packB_len, List.length_append, List.length_singleton, List.length_singleton]; omega
  · intro i h1 h2
    rw [List.getElem_set, packB_at]
    split
    · rename_i e; rw [e]
    · rename_i e
      have hi : i < (packB L).length := by
        have k := h1
        rw [packB_len, List.length_append, List.length_singleton] at k
        rw [packB_len]
        omega
      rw [List.getElem_append_left hi, packB_at]
      exact byteAt_old L b i (fun e2 => e e2.symm)
theorem byteAt_none (L : List Bool) (h : L.length % 8 = 0) : byteAt L (L.length / 8) = 0 := by
  unfold byteAt
  rw [bv_out L _ (by omega), bv_out L _ (by omega), bv_out L _ (by omega), bv_out L _ (by omega), bv_out L _ (by omega), bv_out L _ (by omega), bv_out L _ (by omega), bv_out L _ (by omega)]
  rfl

/-- The state of a writer in memory. -/
structure WSt (w : World) (base s : Nat) (V : Value) (L : List Bool) : Prop where
  sb : IsB w s 135 #[V, .int .i64 L.length]
  own : w.ownsRow base 5 1 V (packB L).length ((packB L).map (Value.int .u8))
  low : base ≤ s

/-- A bit has been appended: the state holds it, and nothing else has changed. -/
def Bit (w : World) (base s : Nat) (L : List Bool) (e : Ending) (w' : World) : Prop := e = .returned (.tuple #[]) ∧ GTh base w w' ∧ ∃ V, WSt w' base s V L

theorem bit_close {w : World} {base s g c n q : Nat} {L : List Bool} {b : Bool} {xs : List Value} {u : Value} (hb : IsB w s 135 #[.slice (some ⟨g, 0, none⟩) n c, .int .i64 L.length])
    (ho : w.ownsRow base 5 1 (.slice (some ⟨g, 0, none⟩) n c) n xs) (hlow : base ≤ s) (hx : xs.set q u = (packB (L ++ [b])).map (Value.int .u8)) (hn : n = (packB (L ++ [b])).length) :
    Bit w base s (L ++ [b]) (.returned (.tuple #[])) ((w.setCell ⟨g, q, none⟩ u).setCell ⟨s, 1, none⟩ (.int .i64 ((L.length : Int) + 1))).drew := by
  subst hn
  have hgs : g ≠ s := by
    have k := own_ne ho hb (by decide)
    intro e; subst e; exact k rfl
  have hg := ho.lt g rfl
  obtain ⟨cur, hcur⟩ : ∃ cur, IsB w g 5 cur := by
    rcases ho.2 with ⟨h1, _⟩ | ⟨g2, cap, cur, h1, _, hh, _⟩
    · injection h1 with h1; cases h1
    · injection h1 with h1; injection h1 with h1; injection h1 with h1; subst h1; exact ⟨cur, hh⟩
  have s1 := (ho.stored q u).1
  have b1 : IsB (w.setCell ⟨g, q, none⟩ u) s 135 #[.slice (some ⟨g, 0, none⟩) (packB (L ++ [b])).length c, .int .i64 L.length] := hb.set_far (fun e => hgs e.symm) q u
  have b2 := b1.set 1 (.int .i64 ((L.length : Int) + 1))
  have s2 := own_keepS s1 (gb_set (w.setCell ⟨g, q, none⟩ u) s 1 (.int .i64 ((L.length : Int) + 1))) b1 (by decide)
  rw [hx] at s2
  refine ⟨rfl, ?_, .slice (some ⟨g, 0, none⟩) (packB (L ++ [b])).length c, ⟨?_, ?_, hlow⟩⟩
  · exact ((GTh.ofRow (gb_set w g q u) hcur (.inl rfl) hg.1).trans (GTh.ofRow (gb_set _ s 1 _) b1 (.inr rfl) hlow)).trans (GTh.of0 (gb_drew _ none))
  · have k : IsB ((w.setCell ⟨g, q, none⟩ u).setCell ⟨s, 1, none⟩ (.int .i64 ((L.length : Int) + 1))).drew s 135 #[.slice (some ⟨g, 0, none⟩) (packB (L ++ [b])).length c, .int .i64 ((L.length : Int) + 1)] := b2
    simpa using k
  · exact s2.drew
theorem bit_odd (w : World) (base s : Nat) (V : Value) (L : List Bool) (b : Bool) (h : WSt w base s V L) (hn : L.length ≤ 60000) (hr : L.length % 8 ≠ 0) :
    Calls Try.prog 121 #[.pointer (some ⟨s, 0, none⟩), .int .u8 (if b then 1 else 0)] w (Bit w base s (L ++ [b])) := by
  obtain ⟨g, c, rfl⟩ := own_head h.own (by rw [packB_len]; omega)
  have hl := packB_len L
  have c0 : w.cell? ⟨s, 0, none⟩ = some (.slice (some ⟨g, 0, none⟩) (packB L).length c) := h.sb.cell 0
  have c1 : w.cell? ⟨s, 1, none⟩ = some (.int .i64 L.length) := h.sb.cell 1
  have f1 := h.sb.free 1
  have cd := own_cell h.own (L.length / 8) (by omega)
  rw [packB_get L _ (by omega)] at cd
  have fd := h.own.frozenAt (L.length / 8)
  have hgs : g ≠ s := by
    have := own_ne h.own h.sb (by decide)
    intro e; subst e; exact this rfl
  have hsg : s ≠ g := fun e => hgs e.symm
  have hq8 : ((L.length : Int) % 8 == 0) = false := by simp; omega
  have i1 : (L.length : Int) / 8 < (packB L).length := by omega
  have ro := byteAt_range L (L.length / 8)
  have HB := Lib.hid (byteAt_new L b)
  have HL := Lib.hid hl
  clear hl
  have hv : (0 : Int) ≤ (if b then 1 else 0) ∧ (if b then (1 : Int) else 0) ≤ 1 := by cases b <;> simp
  generalize (if b then (1 : Int) else 0) = v at *
  generalize byteAt L (L.length / 8) = old at *
  go_enter Try.func121, Try.ntmps121
  go_wp2
  go_region
  go_wp2
  go_end0
  have hw : v * 2 ^ (7 - L.length % 8) % 256 = v * 2 ^ (7 - L.length % 8) := by
    have hp := pow_pos' (7 - L.length % 8)
    have hp2 := pow_mono (7 - L.length % 8) 7 (by omega)
    have hv2 : v = 0 ∨ v = 1 := by omega
    rcases hv2 with e | e <;> rw [e] <;> simp at hp2 ⊢ <;> omega
  rw [hw, HB.out]
  refine bit_close h.sb h.own h.low ?_ ?_
  · rw [packB_same L b hr, List.map_set]
  · rw [packB_same L b hr, List.length_set]

theorem Bit.from {w w2 : World} {base s : Nat} {L : List Bool} {e : Ending} {w' : World} (h : Bit w2 base s L e w') (k : GTh base w w2) : Bit w base s L e w' := ⟨h.1, k.trans h.2.1, h.2.2⟩

set_option maxHeartbeats 1000000 in
theorem bit_even (w : World) (base s : Nat) (V : Value) (L : List Bool) (b : Bool) (h : WSt w base s V L) (hbase : base ≤ w.heap.size) (hn : L.length ≤ 60000) (hr : L.length % 8 = 0) :
    Calls Try.prog 121 #[.pointer (some ⟨s, 0, none⟩), .int .u8 (if b then 1 else 0)] w (Bit w base s (L ++ [b])) := by
  obtain ⟨i0, hi, hz0, hz1, hz2⟩ := info_parts infoU8
  obtain ⟨a, c, rfl⟩ := own_shape h.own
  have hl := packB_len L
  have c0 : w.cell? ⟨s, 0, none⟩ = some (.slice a (packB L).length c) := h.sb.cell 0
  have c1 : w.cell? ⟨s, 1, none⟩ = some (.int .i64 L.length) := h.sb.cell 1
  have hq8 : ((L.length : Int) % 8 == 0) = true := by simp; omega
  have HB := Lib.hid (byteAt_new L b)
  rw [byteAt_none L hr] at HB
  have HL := Lib.hid hl
  have hl2 : (packB L).length * 8 ≤ L.length := by omega
  clear hl
  have hv : (0 : Int) ≤ (if b then 1 else 0) ∧ (if b then (1 : Int) else 0) ≤ 1 := by cases b <;> simp
  generalize (if b then (1 : Int) else 0) = v at *
  have bs1 := h.sb.alloc (.cells #[.int .u8 0] 5)
  have os1 := h.own.alloc (.cells #[.int .u8 0] 5)
  have hown0 : (Value.slice a (packB L).length c).ownBlock ≠ some s := own_ne h.own h.sb (by decide)
  go_enter Try.func121, Try.ntmps121
  go_wp2_with (at_builtin; refine wpList_append_own _ rfl _ _ 37 rfl base 5 i0 (.int .u8 0) 1 1 Try.underlying37 hi hz0 hz1 hz2 rfl (by decide) _ (packB L).length ((packB L).map (Value.int .u8)) rfl os1 ⟨w.heap.size, 0, none⟩ 1 1 [.int .u8 0] rfl rfl ?c1 ?c2 ?c3 ?c4 ?c5 ?_)
  case c1 =>
    intro j u hj
    match j, hj with
    | 0, hj => simp at hj; subst hj; simp [Addr.add]
  case c2 => intro u hu; simp at hu; subst hu; rfl
  case c3 => unfold maxLen; omega
  case c4 => omega
  case c5 => simp; omega
  · intro v' w1 hown hgrow _
    obtain ⟨g, cc, rfl⟩ := own_head hown (by omega)
    have bs2 := bs1.keep hgrow (fun e => hown0 e.symm)
    have k0 : GTh base w (w.alloc (.cells #[.int .u8 0] 5)) := GTh.of0 (gb_alloc _ _ none)
    have k1 : GTh base (w.alloc (.cells #[.int .u8 0] 5)) w1 := GTh.ofOwn hgrow os1
    have bs3 := bs2.set 0 (.slice (some ⟨g, 0, none⟩) ((packB L).length + 1) cc)
    have os3 := own_keepS hown (gb_set w1 s 0 (.slice (some ⟨g, 0, none⟩) ((packB L).length + 1) cc)) bs2 (by decide)
    have k2 : GTh base w1 (w1.setCell ⟨s, 0, none⟩ (.slice (some ⟨g, 0, none⟩) ((packB L).length + 1) cc)) := GTh.ofRow (gb_set w1 s 0 _) bs2 (.inr rfl) h.low
    have K := Lib.hid ((k0.trans k1).trans k2)
    have fs := bs2.free 0
    have cs0 : w1.cell? ⟨s, 0, none⟩ = some (.slice a (packB L).length c) := bs2.cell 0
    clear k0 k1 k2 hown hgrow hown0 c0 c1 bs1 bs2 os1 hi hz0 hz1 hz2
    go_wp2
    clear fs cs0
    have bs4 : IsB (w1.setCell ⟨s, 0, none⟩ (.slice (some ⟨g, 0, none⟩) ((packB L).length + 1) cc)) s 135 #[.slice (some ⟨g, 0, none⟩) ((packB L).length + 1) cc, .int .i64 L.length] := bs3
    clear bs3
    generalize w1.setCell ⟨s, 0, none⟩ (.slice (some ⟨g, 0, none⟩) ((packB L).length + 1) cc) = w2 at *
    have c0 : w2.cell? ⟨s, 0, none⟩ = some (.slice (some ⟨g, 0, none⟩) ((packB L).length + 1) cc) := bs4.cell 0
    have c1 : w2.cell? ⟨s, 1, none⟩ = some (.int .i64 L.length) := bs4.cell 1
    have f1 := bs4.free 1
    have el : (packB L).length = L.length / 8 := by rw [HL.out]; omega
    have cd : w2.cell? ⟨g, L.length / 8, none⟩ = some (.int .u8 0) := by
      rw [os3.cellAt (L.length / 8) (by omega), ← el]; simp
    have fd := os3.frozenAt (L.length / 8)
    have hgs : g ≠ s := by
      have k := own_ne os3 bs4 (by decide)
      intro e; subst e; exact k rfl
    have hsg : s ≠ g := fun e => hgs e.symm
    have i1 : (L.length : Int) / 8 < (packB L).length + 1 := by omega
    have EL := Lib.hid el
    clear el
    go_region
    go_wp2
    go_end0
    have hw : v * 128 % 256 = v * 128 := by omega
    have hb2 : bits .or .u8 0 (v * 128) = byteAt (L ++ [b]) (L.length / 8) := by
      have k := HB.out
      rw [hr] at k
      exact k
    rw [hw, hb2]
    refine (bit_close bs4 os3 h.low ?_ ?_).from K.out
    · rw [packB_more L b hr, List.map_set, List.map_append]; rfl
    · rw [packB_more L b hr, List.length_set, List.length_append]; rfl
theorem bit_any (w : World) (base s : Nat) (V : Value) (L : List Bool) (b : Bool) (h : WSt w base s V L) (hbase : base ≤ w.heap.size) (hn : L.length ≤ 60000) :
    Calls Try.prog 121 #[.pointer (some ⟨s, 0, none⟩), .int .u8 (if b then 1 else 0)] w (Bit w base s (L ++ [b])) := by
  by_cases hr : L.length % 8 = 0
  · exact bit_even w base s V L b h hbase hn hr
  · exact bit_odd w base s V L b h hn hr
end Go.Proofs.Ytglgjkggjpfahaa
end
section
namespace Go.Proofs.Ytglgjkggjpfahaa
open Go.RowKit

/-- A writer in memory. -/
structure Wtr (w : World) (base r s : Nat) (V : Value) (L : List Bool) : Prop where
  wb : IsB w r 137 #[.pointer (some ⟨s, 0, none⟩)]
  st : WSt w base s V L
theorem Wtr.keep0 {w w2 : World} {base r s : Nat} {V : Value} {L : List Bool} (h : Wtr w base r s V L) (k : w.grownBy w2 none) : Wtr w2 base r s V L :=
  ⟨h.wb.keep0 k, ⟨h.st.sb.keep0 k, own_keep0 h.st.own k, h.st.low⟩⟩
/-- The call returns an error code, and the writer holds these bits. -/
def WrQ (err : Int) (w : World) (base r s : Nat) (L : List Bool) (e : Ending) (w' : World) : Prop := e = .returned (.int .i64 err) ∧ GTh base w w' ∧ ∃ V, Wtr w' base r s V L

/-- Bit i of the n bits of v, the most significant one first. -/
def vb (v : Int) (n i : Nat) : Bool := decide (v / 2 ^ (n - 1 - i) % 2 = 1)
def bitsOf (v : Int) (n : Nat) : List Bool := (List.range n).map (vb v n)
theorem bitsOf_len (v : Int) (n : Nat) : (bitsOf v n).length = n := by simp [bitsOf]
theorem bitsOf_take (v : Int) (n k : Nat) (h : k < n) : (bitsOf v n).take (k + 1) = (bitsOf v n).take k ++ [vb v n k] := by
  rw [List.take_succ_eq_append_getElem (by simpa [bitsOf] using h)]
  simp [bitsOf]
def b2i (b : Bool) : Int := if b then 1 else 0
theorem bit_call (w : World) (base s : Nat) (V : Value) (L : List Bool) (b : Bool) (h : WSt w base s V L) (hbase : base ≤ w.heap.size) (hn : L.length ≤ 60000) :
    Calls Try.prog 121 #[.pointer (some ⟨s, 0, none⟩), .int .u8 (b2i b)] w (Bit w base s (L ++ [b])) := bit_any w base s V L b h hbase hn
theorem vb_eq (v : Int) (n k : Nat) (h0 : 0 ≤ v) (h1 : v < 4294967296) : IntKind.u8.wrap (bits .and .u32 (v / 2 ^ (n - 1 - k)) 1) = b2i (vb v n k) := by
  have r := shr_range v (n - 1 - k) h0 h1
  rw [one_bit _ r.1 r.2, IntKind.wrap_u8]
  unfold vb b2i
  by_cases e : v / 2 ^ (n - 1 - k) % 2 = 1
  · simp [e]
  · simp [e]; omega

theorem wmade_yes (w : World) (r : Nat) (a : Addr) (h : IsB w r 137 #[.pointer (some a)]) :
    Calls Try.prog 95 #[.pointer (some ⟨r, 0, none⟩)] w fun e w' => e = .returned (.bool true) ∧ w = w' := by
  have c0 : w.cell? ⟨r, 0, none⟩ = some (.pointer (some a)) := h.cell 0
  go_enter Try.func95, Try.ntmps95
  go_wp2
  go_ret
  exact ⟨rfl, rfl⟩
theorem wmade_nil (w : World) : Calls Try.prog 95 #[.pointer none] w fun e w' => e = .returned (.bool false) ∧ w = w' := by
  go_enter Try.func95, Try.ntmps95
  go_wp2
  go_ret
  exact ⟨rfl, rfl⟩
theorem wmade_raw (w : World) (r : Nat) (h : IsB w r 137 #[.pointer none]) :
    Calls Try.prog 95 #[.pointer (some ⟨r, 0, none⟩)] w fun e w' => e = .returned (.bool false) ∧ w = w' := by
  have c0 : w.cell? ⟨r, 0, none⟩ = some (.pointer none) := h.cell 0
  go_enter Try.func95, Try.ntmps95
  go_wp2
  go_ret
  exact ⟨rfl, rfl⟩
theorem newWriter_any (w : World) : Calls Try.prog 60 #[] w fun e w' => e = .returned (.pointer (some ⟨w.heap.size + 1, 0, none⟩)) ∧ w.grownBy w' none ∧ Wtr w' w.heap.size (w.heap.size + 1) w.heap.size (.slice none 0 0) [] := by
  go_enter Try.func60, Try.ntmps60
  go_wp2
  go_ret
  have e : (w.alloc (.cells #[.slice none 0 0, .int .i64 0] 135)).heap.size = w.heap.size + 1 := by simp
  refine ⟨rfl, gb_trans (gb_alloc _ _ _) (gb_alloc _ _ _), ⟨?_, ⟨(IsB.new w _ _).alloc _, World.ownsRow_nil _ _ _ _, Nat.le_refl _⟩⟩⟩
  have k := IsB.new (w.alloc (.cells #[.slice none 0 0, .int .i64 0] 135)) 137 #[.pointer (some ⟨w.heap.size, 0, none⟩)]
  rw [e] at k; exact k
theorem wr_nil (w : World) (v n : Int) : Calls Try.prog 92 #[.pointer none, .int .u32 v, .int .i64 n] w (RetQ (.int .i64 1) w none fun _ => True) := by
  go_enter Try.func92, Try.ntmps92
  go_wp2_with (go_at_call 95; refine (wmade_nil _).mono ?_; rintro e w' ⟨rfl, rfl⟩)
  go_ret
  exact ⟨rfl, gb_refl _ _, trivial⟩
theorem wr_raw (w : World) (r : Nat) (v n : Int) (h : IsB w r 137 #[.pointer none]) : Calls Try.prog 92 #[.pointer (some ⟨r, 0, none⟩), .int .u32 v, .int .i64 n] w (RetQ (.int .i64 1) w none fun _ => True) := by
  go_enter Try.func92, Try.ntmps92
  go_wp2_with (go_at_call 95; refine (wmade_raw _ _ h).mono ?_; rintro e w' ⟨rfl, rfl⟩)
  go_ret
  exact ⟨rfl, gb_refl _ _, trivial⟩
theorem wr_width (w : World) (base r s : Nat) (V : Value) (L : List Bool) (v n : Int) (h : Wtr w base r s V L) (hv : okW n = false) :
    Calls Try.prog 92 #[.pointer (some ⟨r, 0, none⟩), .int .u32 v, .int .i64 n] w (WrQ 10 w base r s L) := by
  have hm := (iovalid_any n w)
  rw [hv] at hm
  have HM := Lib.hid hm
  clear hm hv
  go_enter Try.func92, Try.ntmps92
  go_wp2_with fail
  refine (wmade_yes _ _ _ h.wb).mono ?_
  rintro e w1 ⟨rfl, rfl⟩
  go_wp2_with fail
  refine HM.out.mono ?_
  rintro e w2 ⟨rfl, g2, _⟩
  have h3 := h.keep0 g2
  go_wp2
  go_ret
  exact ⟨rfl, GTh.of0 g2, V, h3⟩
theorem wr_range (w : World) (base r s : Nat) (V : Value) (L : List Bool) (v n : Int) (h : Wtr w base r s V L) (hv : okW n = true) (hf : fitsB v n = false) :
    Calls Try.prog 92 #[.pointer (some ⟨r, 0, none⟩), .int .u32 v, .int .i64 n] w (WrQ 9 w base r s L) := by
  have hm := (iovalid_any n w)
  rw [hv] at hm
  have HM := Lib.hid hm
  have HF := Lib.hid hf
  clear hm hv hf
  go_enter Try.func92, Try.ntmps92
  go_wp2_with fail
  refine (wmade_yes _ _ _ h.wb).mono ?_
  rintro e w1 ⟨rfl, rfl⟩
  go_wp2_with fail
  refine HM.out.mono ?_
  rintro e w2 ⟨rfl, g2, _⟩
  go_wp2_with fail
  refine (fits_any v n _).mono ?_
  rintro e w5 hr; obtain ⟨rfl, g5⟩ := ret_to (by rw [HF.out]) hr; clear hr
  have g6 := gb_trans g2 (gb_gr g5 none)
  have h3 := h.keep0 g6
  go_wp2
  go_ret
  exact ⟨rfl, GTh.of0 g6, V, h3⟩
set_option maxRecDepth 100000 in
theorem wr_ok (w : World) (base r s : Nat) (V : Value) (L : List Bool) (v n : Int) (h : Wtr w base r s V L) (hbase : base ≤ w.heap.size) (hn : L.length ≤ 50000) (h1 : 1 ≤ n) (h2 : n ≤ 32) (hf : fitsB v n = true) (k0 : 0 ≤ v) (k1 : v < 4294967296) :
    Calls Try.prog 92 #[.pointer (some ⟨r, 0, none⟩), .int .u32 v, .int .i64 n] w (WrQ 0 w base r s (L ++ bitsOf v n.toNat)) := by
  have hm := (iovalid_any n w)
  rw [show okW n = true by simp [okW, h1, h2]] at hm
  have HM := Lib.hid hm
  have HF := Lib.hid hf
  clear hm hf
  go_enter Try.func92, Try.ntmps92
  go_wp2_with fail
  refine (wmade_yes _ _ _ h.wb).mono ?_
  rintro e w1 ⟨rfl, rfl⟩
  go_wp2_with fail
  refine HM.out.mono ?_
  rintro e w2 ⟨rfl, g2, _⟩
  go_wp2_with fail
  refine (fits_any v n _).mono ?_
  rintro e w5 hr; obtain ⟨rfl, g5⟩ := ret_to (by rw [HF.out]) hr; clear hr
  have g6 := gb_trans g2 (gb_gr g5 none)
  have h3 := h.keep0 g6
  have HG := Lib.hid (show GTh base w w5 from GTh.of0 g6)
  clear g5 g2 g6
  go_wp2_with fail
  go_loopw [7, 19] (fun _ i wr => ∃ k : Nat, k ≤ n.toNat ∧ i = .int .i64 k ∧ (∃ V, Wtr wr base r s V (L ++ (bitsOf v n.toNat).take k)) ∧ GTh base w wr) (fun _ i _ => n.toNat - (intOf i).toNat)
  case atStart => exact ⟨0, Nat.zero_le _, rfl, ⟨V, by simpa using h3⟩, HG.out⟩
  case round =>
    obtain ⟨k, hk, rfl, ⟨V2, hr⟩, hg⟩ := hrel
    clear h3 h
    by_cases hlt : (k : Int) < n
    · have c5 : wr.cell? ⟨r, 0, none⟩ = some (.pointer (some ⟨s, 0, none⟩)) := hr.wb.cell 0
      have HS := Lib.hid (bitsOf_take v n.toNat k (by omega))
      have HV := Lib.hid (vb_eq v n.toNat k k0 k1)
      have HR := Lib.hid hr
      have HH := Lib.hid hg
      have HZ := Lib.hid (show base ≤ wr.heap.size by have := hg.size; omega)
      have HL := Lib.hid (show (L ++ (bitsOf v n.toNat).take k).length ≤ 60000 by rw [List.length_append, List.length_take, bitsOf_len]; omega)
      clear hr hg hbase
      go_wp2
      have e1 : IntKind.i64.wrap (n - 1) = n - 1 := IntWalk.i64_in _ (by omega)
      have e2 : IntKind.i64.wrap (n - 1 - (k : Int)) = n - 1 - (k : Int) := IntWalk.i64_in _ (by omega)
      have e3 : 0 ≤ n - 1 - (k : Int) := by omega
      have e4 : (n - 1 - (k : Int)).toNat = n.toNat - 1 - k := by omega
      go_still_tail 12, (by kernel_rfl)
      clear e1 e2 e3 e4
      change wpList _ _ _ _ _ wr.drew
      rw [HV.out]
      have hw : WSt wr.drew base s V2 (L ++ (bitsOf v n.toNat).take k) := ⟨HR.out.st.sb, HR.out.st.own.drew, HR.out.st.low⟩
      have hb2 : IsB wr.drew r 137 #[.pointer (some ⟨s, 0, none⟩)] := HR.out.wb
      have hg2 : GTh base w wr.drew := HH.out.trans (GTh.of0 (gb_drew _ none))
      have hz2 : base ≤ wr.drew.heap.size := HZ.out
      clear c5 HR HH HZ
      generalize wr.drew = w3 at *
      have HW := Lib.hid hw
      have HB2 := Lib.hid hb2
      have HG2 := Lib.hid hg2
      clear hw hb2 hg2
      go_wp2_with fail
      refine (bit_call w3 base s V2 _ (vb v n.toNat k) HW.out hz2 HL.out).mono ?_
      rintro e w4 ⟨rfl, q1, V3, q2⟩
      have Q1 := Lib.hid q1
      have Q2 := Lib.hid q2
      clear q1 q2
      go_wp2
      go_roundw
      case rel =>
        refine ⟨k + 1, by omega, by go_num, ⟨V3, Q1.out.kind _ _ _ HB2.out (by decide) (by decide), ?_⟩, HG2.out.trans Q1.out⟩
        rw [HS.out, ← List.append_assoc]; exact Q2.out
      case measure => simp [intOf]; omega
    · have EK := Lib.hid (show k = n.toNat by omega)
      go_wp2
      go_ret
      refine ⟨rfl, hg, V2, ?_⟩
      rw [EK.out, List.take_of_length_le (by rw [bitsOf_len]; exact Nat.le_refl _)] at hr
      exact hr
end Go.Proofs.Ytglgjkggjpfahaa
end
section
namespace Go.Proofs.Ytglgjkggjpfahaa
open Go.RowKit

theorem bytes_nil (w : World) : Calls Try.prog 63 #[.pointer none] w (RetQ (.tuple #[.slice none 0 0, .int .i64 1]) w none fun _ => True) := by
  go_enter Try.func63, Try.ntmps63
  go_wp2_with (go_at_call 95; refine (wmade_nil _).mono ?_; rintro e w' ⟨rfl, rfl⟩)
  go_ret2
  exact ⟨rfl, gb_refl _ _, trivial⟩
theorem bytes_raw (w : World) (r : Nat) (h : IsB w r 137 #[.pointer none]) : Calls Try.prog 63 #[.pointer (some ⟨r, 0, none⟩)] w (RetQ (.tuple #[.slice none 0 0, .int .i64 1]) w none fun _ => True) := by
  go_enter Try.func63, Try.ntmps63
  go_wp2_with (go_at_call 95; refine (wmade_raw _ _ h).mono ?_; rintro e w' ⟨rfl, rfl⟩)
  go_ret2
  exact ⟨rfl, gb_refl _ _, trivial⟩
theorem bytes_odd (w : World) (base r s : Nat) (V : Value) (L : List Bool) (h : Wtr w base r s V L) (hp : ¬ L.length % 8 = 0) :
    Calls Try.prog 63 #[.pointer (some ⟨r, 0, none⟩)] w (RetQ (.tuple #[.slice none 0 0, .int .i64 10]) w none fun _ => True) := by
  have c0 : w.cell? ⟨r, 0, none⟩ = some (.pointer (some ⟨s, 0, none⟩)) := h.wb.cell 0
  have c1 : w.cell? ⟨s, 1, none⟩ = some (.int .i64 L.length) := h.st.sb.cell 1
  have hq : ((L.length : Int) % 8 != 0) = true := by rw [bne_iff_ne]; omega
  go_enter Try.func63, Try.ntmps63
  go_wp2_with (go_at_call 95; refine (wmade_yes _ _ _ h.wb).mono ?_; rintro e w' ⟨rfl, rfl⟩)
  go_ret2
  exact ⟨rfl, gb_refl _ _, trivial⟩
set_option maxRecDepth 100000 in
theorem bytes_even (w : World) (base r s : Nat) (V : Value) (L : List Bool) (h : Wtr w base r s V L) (hn : L.length ≤ 60000) (hp : L.length % 8 = 0) :
    Calls Try.prog 63 #[.pointer (some ⟨r, 0, none⟩)] w (RetSh (packB L) w w.heap.size) := by
  obtain ⟨i0, hi, hz0, hz1, hz2⟩ := info_parts infoU8
  have c0 : w.cell? ⟨r, 0, none⟩ = some (.pointer (some ⟨s, 0, none⟩)) := h.wb.cell 0
  have c1 : w.cell? ⟨s, 1, none⟩ = some (.int .i64 L.length) := h.st.sb.cell 1
  have hq : ((L.length : Int) % 8 != 0) = false := by rw [bne_eq_false_iff_eq]; omega
  have hl : (packB L).length ≤ 60000 := by rw [packB_len]; omega
  have HM := Lib.hid h.wb
  rcases h.st.own.2 with ⟨rfl, hz⟩ | ⟨g, cap, cur, rfl, _⟩
  · have c2 : w.cell? ⟨s, 0, none⟩ = some (.slice none 0 0) := h.st.sb.cell 0
    have HI := Lib.hid hi
    have HZ := Lib.hid (List.length_eq_zero_iff.1 hz)
    clear hi hz hz0 hz1 hz2 h hl hp
    go_enter Try.func63, Try.ntmps63
    go_wp2_with (first | (go_at_call 95; refine (wmade_yes _ _ _ HM.out).mono ?_; rintro e w' ⟨rfl, rfl⟩) | (at_builtin; refine wpList_append_own_none rfl _ _ 37 rfl w.heap.size 5 i0 1 Try.underlying37 HI.out _ _ _ rfl (World.ownsRow_nil _ _ _ _) rfl ?_))
    go_ret2
    refine ⟨_, rfl, gb_refl _ _, ?_, fun _ => rfl⟩
    rw [HZ.out]; exact World.ownsRow_nil _ _ _ _
  · have c2 : w.cell? ⟨s, 0, none⟩ = some (.slice (some ⟨g, 0, none⟩) (packB L).length cap) := h.st.sb.cell 0
    have HC := Lib.hid (h.st.own.cells (g := g) rfl)
    have HI := Lib.hid hi
    clear hi hp h
    go_enter Try.func63, Try.ntmps63
    go_wp2_with (first | (go_at_call 95; refine (wmade_yes _ _ _ HM.out).mono ?_; rintro e w' ⟨rfl, rfl⟩) | (at_builtin; refine wpList_append_own _ rfl _ _ 37 rfl w.heap.size 5 i0 (.int .u8 0) 1 1 Try.underlying37 HI.out hz0 hz1 hz2 rfl (by decide) _ 0 [] rfl (World.ownsRow_nil _ _ _ _) ⟨g, 0, none⟩ (packB L).length cap ((packB L).map (Value.int .u8)) rfl ?c1 HC.out (ints_one _ _) ?c3 ?c4 ?c5 ?_))
    case c1 => simp
    case c3 => unfold maxLen; omega
    case c4 => omega
    case c5 => exact Nat.le_refl _
    · intro v' w1 hown hg hiff
      have HO := Lib.hid hown
      have HF := Lib.hid hiff
      have HG := Lib.hid hg
      clear hown hiff hg HC HI hz0 hz1 hz2 c0 c1 c2 hq
      go_wp2
      go_ret2
      refine ⟨v', rfl, HG.out, ?_, ?_⟩
      · have k := HO.out
        simpa using k
      · intro e
        have k := HF.out
        rw [e] at k
        simpa using k
end Go.Proofs.Ytglgjkggjpfahaa
end
section
namespace Go.Proofs.Ytglgjkggjpfahaa
open Go.RowKit
set_option linter.unusedVariables false

/-- One number written: the error code and the bits held. -/
def wrStep (L : List Bool) (v n : Int) : Int × List Bool := if okW n then if fitsB v n then (0, L ++ bitsOf v n.toNat) else (9, L) else (10, L)
theorem wr_any (w : World) (base r s : Nat) (V : Value) (L : List Bool) (v n : Int) (h : Wtr w base r s V L) (hbase : base ≤ w.heap.size) (hn : L.length ≤ 50000) (k0 : 0 ≤ v) (k1 : v < 4294967296) (er : Int) (L2 : List Bool) (hq : wrStep L v n = (er, L2)) :
    Calls Try.prog 92 #[.pointer (some ⟨r, 0, none⟩), .int .u32 v, .int .i64 n] w (WrQ er w base r s L2) := by
  unfold wrStep at hq
  by_cases hv : okW n = true
  · rw [if_pos hv] at hq
    by_cases hf : fitsB v n = true
    · rw [if_pos hf] at hq
      simp only [Prod.mk.injEq] at hq
      obtain ⟨rfl, rfl⟩ := hq
      have hv2 : 1 ≤ n ∧ n ≤ 32 := of_decide_eq_true hv
      exact wr_ok w base r s V L v n h hbase hn hv2.1 hv2.2 hf k0 k1
    · rw [if_neg hf] at hq
      simp only [Prod.mk.injEq] at hq
      obtain ⟨rfl, rfl⟩ := hq
      exact wr_range w base r s V L v n h hv (by simpa using hf)
  · rw [if_neg hv] at hq
    simp only [Prod.mk.injEq] at hq
    obtain ⟨rfl, rfl⟩ := hq
    exact wr_width w base r s V L v n h (by simpa using hv)

/-- The numbers written one after the other, up to the first error. -/
def pkRun : List Bool → List (Int × Int) → Int × List Bool
  | L, [] => (0, L)
  | L, (v, n) :: t => if (wrStep L v n).1 = 0 then pkRun (wrStep L v n).2 t else wrStep L v n

set_option maxRecDepth 100000 in
theorem closure_pack (w : World) (base r s bw bv : Nat) (V : Value) (L : List Bool) (ad : Addr) (len cap i : Nat) (x n : Int) (h : Wtr w base r s V L) (hbase : base ≤ w.heap.size) (hn : L.length ≤ 50000)
    (hw : IsB w bw 100 #[.pointer (some ⟨r, 0, none⟩)]) (hv : IsB w bv 40 #[.slice (some ad) len cap]) (hc : w.cell? (ad.add i) = some (.int .u32 x)) (hi : i < len) (hl : len ≤ 60000) (k0 : 0 ≤ x) (k1 : x < 4294967296)
    (er : Int) (L2 : List Bool) (hq : wrStep L x n = (er, L2)) :
    Calls Try.prog 122 #[.int .i64 i, .int .i64 n, .pointer (some ⟨bw, 0, none⟩), .pointer (some ⟨bv, 0, none⟩)] w (WrQ er w base r s L2) := by
  have c0 : w.cell? ⟨bw, 0, none⟩ = some (.pointer (some ⟨r, 0, none⟩)) := hw.cell 0
  have c1 : w.cell? ⟨bv, 0, none⟩ = some (.slice (some ad) len cap) := hv.cell 0
  have i1 : (i : Int) < len := by omega
  have HW := Lib.hid (wr_any w.drew base r s V L x n (h.keep0 (gb_drew _ none)) hbase hn k0 k1 er L2 hq)
  clear hq h hw hv
  go_enter Try.func122, Try.ntmps122
  go_wp2
  go_still_tail 6, (by kernel_rfl)
  change wpList _ _ _ _ _ w.drew
  go_wp2_with fail
  refine HW.out.mono ?_
  rintro e w2 ⟨rfl, q1, V3, q2⟩
  have Q1 := Lib.hid q1
  have Q2 := Lib.hid q2
  clear q1 q2
  go_wp2
  go_ret
  exact ⟨rfl, (GTh.of0 (gb_drew w none)).trans Q1.out, V3, Q2.out⟩
theorem pkRun_len (L : List Bool) (v n : Int) : (wrStep L v n).2.length ≤ L.length + 32 := by
  unfold wrStep
  split
  · rename_i h
    have h2 : 1 ≤ n ∧ n ≤ 32 := of_decide_eq_true h
    split
    · simp only [List.length_append, bitsOf_len]; omega
    · show L.length ≤ L.length + 32; omega
  · show L.length ≤ L.length + 32; omega
theorem zip_drop (vals ns : List Int) (k : Nat) (h1 : k < vals.length) (h2 : k < ns.length) : (vals.zip ns).drop k = (vals.getD k 0, ns.getD k 0) :: (vals.zip ns).drop (k + 1) := by
  rw [List.drop_eq_getElem_cons (by simp; omega)]
  simp [h1, h2]
theorem zip_end (vals ns : List Int) (k : Nat) (h2 : ns.length ≤ k) : (vals.zip ns).drop k = [] := by
  apply List.drop_eq_nil_of_le
  simp; omega

set_option maxHeartbeats 1000000 in
theorem each_pack (w0 w : World) (base r s bw bv : Nat) (V : Value) (a a2 : Option Addr) (cap cap2 : Nat) (vals ns : List Int) (er : Int) (L2 : List Bool) (h : Wtr w base r s V []) (hbase : base ≤ w.heap.size)
    (hw : IsB w bw 100 #[.pointer (some ⟨r, 0, none⟩)]) (hv : IsB w bv 40 #[.slice a vals.length cap]) (h0 : Below w0.heap.size w0 w) (hb0 : w0.heap.size ≤ base)
    (hvals : SlR w0 a vals.length cap (vals.map (Value.int .u32))) (hns : SlR w0 a2 ns.length cap2 (ns.map (Value.int .i64))) (hlen : vals.length = ns.length) (hn : ns.length ≤ 1000) (hr : ∀ x ∈ vals, 0 ≤ x ∧ x < 4294967296)
    (hq : pkRun [] (vals.zip ns) = (er, L2)) :
    Calls Try.prog 123 #[.func (.func 122) #[] #[.pointer (some ⟨bw, 0, none⟩), .pointer (some ⟨bv, 0, none⟩)], .slice a2 ns.length cap2] w (WrQ er w base r s L2) := by
  have HL := Lib.hid hlen
  have HQ := Lib.hid hq
  clear hlen hq
  go_enter Try.func123, Try.ntmps123
  go_wp2
  go_loopw [10] (fun i wr => ∃ (k : Nat) (V' : Value) (L' : List Bool), k ≤ ns.length ∧ i = .int .i64 k ∧ Wtr wr base r s V' L' ∧ pkRun L' ((vals.zip ns).drop k) = (er, L2) ∧ L'.length ≤ 32 * k ∧ GTh base w wr) (fun i _ => ns.length - (intOf i).toNat)
  case atStart => exact ⟨0, V, [], Nat.zero_le _, rfl, h, HQ.out, by simp, GTh.refl _ _⟩
  case round =>
    obtain ⟨k, V', L', hk, rfl, hw1, hq1, hl1, hg⟩ := hrel
    have HB0 := Lib.hid (show Below w0.heap.size w0 wr from ⟨hg.os.trans h0.os, hg.tape.trans h0.tape, hg.output.trans h0.output, Nat.le_trans h0.size hg.size, fun i hi => (hg.low i (by have := h0.size; omega) (by omega)).trans (h0.block i hi)⟩)
    have HW1 := Lib.hid hw1
    have HQ1 := Lib.hid hq1
    have HG := Lib.hid hg
    clear hw1 hq1 hg
    by_cases hlt : k < ns.length
    · cases a2 with
      | none => exact absurd (hns.2.1 rfl).1 (by omega)
      | some ad2 =>
        cases a with
        | none => exact absurd (hvals.2.1 rfl).1 (by rw [HL.out]; omega)
        | some ad =>
          have hc2 := (hns.below HB0.out).cellAt k (by omega)
          have hc1 := (hvals.below HB0.out).cellAt k (by rw [HL.out]; omega)
          have HC1 := Lib.hid hc1
          clear hc1
          have hx := hr (vals.getD k 0) (by rw [List.getD_eq_getElem?_getD, List.getElem?_eq_getElem (by rw [HL.out]; omega)]; exact List.getElem_mem _)
          have hz := HQ1.out
          rw [zip_drop vals ns k (by rw [HL.out]; omega) hlt] at hz
          have HZ := Lib.hid hz
          clear hz
          generalize ns.getD k 0 = nk at *
          generalize vals.getD k 0 = x at *
          obtain ⟨e1, L1, hs⟩ : ∃ e1 L1, wrStep L' x nk = (e1, L1) := ⟨_, _, rfl⟩
          have HS := Lib.hid hs
          have HX := Lib.hid hx
          have hlen1 := pkRun_len L' x nk
          rw [hs] at hlen1
          have hz := HZ.out
          rw [pkRun, hs] at hz
          have HZ2 := Lib.hid hz
          clear hz hs hx
          have HM := Lib.hid (closure_pack wr base r s bw bv V' L' ad vals.length cap k x nk HW1.out (by have := HG.out.size; omega) (by omega) (HG.out.kind _ _ _ hw (by decide) (by decide)) (HG.out.kind _ _ _ hv (by decide) (by decide)) HC1.out (by rw [HL.out]; omega) (by rw [HL.out]; omega) HX.out.1 HX.out.2 e1 L1 HS.out)
          by_cases he : e1 = 0
          · subst he
            have HZ3 := Lib.hid (show pkRun L1 ((vals.zip ns).drop (k + 1)) = (er, L2) by have := HZ2.out; rwa [if_pos rfl] at this)
            go_wp2_with fail
            refine HM.out.mono ?_
            rintro e w5 ⟨rfl, q1, V5, q2⟩
            have Q1 := Lib.hid q1
            have Q2 := Lib.hid q2
            clear q1 q2
            go_wp2
            go_roundw
            case rel => exact ⟨k + 1, V5, L1, by omega, by go_num, Q2.out, HZ3.out, by omega, HG.out.trans Q1.out⟩
            case measure => simp [intOf]; omega
          · have HZ3 := Lib.hid (show e1 = er ∧ L1 = L2 by have := HZ2.out; rw [if_neg he] at this; simpa using this)
            have hne : (e1 != 0) = true := by simpa using he
            clear he
            go_wp2_with fail
            refine HM.out.mono ?_
            rintro e w5 ⟨rfl, q1, V5, q2⟩
            have Q1 := Lib.hid q1
            have Q2 := Lib.hid q2
            clear q1 q2
            go_wp2
            go_ret
            exact ⟨ret_i HZ3.out.1, HG.out.trans Q1.out, V5, by rw [← HZ3.out.2]; exact Q2.out⟩
    · have HZ3 := Lib.hid (show 0 = er ∧ L' = L2 by have := HQ1.out; rw [zip_end vals ns k (by omega)] at this; simpa [pkRun] using this)
      go_wp2
      go_ret
      exact ⟨ret_i HZ3.out.1, HG.out, V', by rw [← HZ3.out.2]; exact HW1.out⟩

/-- What Pack comes to: the error code and the bytes. -/
def packR (vals ns : List Int) : Int × List Int :=
  if vals.length = ns.length then
    if (pkRun [] (vals.zip ns)).1 = 0 then if (pkRun [] (vals.zip ns)).2.length % 8 = 0 then (0, packB (pkRun [] (vals.zip ns)).2) else (10, []) else ((pkRun [] (vals.zip ns)).1, [])
  else (2, [])
/-- The call returns bytes of its own and an error code. -/
def RetP (er : Int) (bs : List Int) (w : World) (e : Ending) (w' : World) : Prop :=
  ∃ v', e = .returned (.tuple #[v', .int .i64 er]) ∧ Below w.heap.size w w' ∧ w'.ownsRow w.heap.size 5 1 v' bs.length (bs.map (Value.int .u8)) ∧ (bs = [] → v' = .slice none 0 0)
theorem RetP.nil {er : Int} {w w' : World} {v : Value} (h : Below w.heap.size w w') (hv : v = .int .i64 er) : RetP er [] w (.returned (.tuple #[.slice none 0 0, v])) w' := by
  subst hv; exact ⟨_, rfl, h, World.ownsRow_nil _ _ _ _, fun _ => rfl⟩

theorem pack_args (w : World) (a : Option Addr) (len cap : Nat) (vals ns : List Int) (h : SlR w a len cap (vals.map (Value.int .u32))) (a2 : Option Addr) (len2 cap2 : Nat) (h2 : SlR w a2 len2 cap2 (ns.map (Value.int .i64))) (hne : vals.length ≠ ns.length) :
    Calls Try.prog 93 #[.slice a len cap, .slice a2 len2 cap2] w (RetP 2 [] w) := by
  have e1 : vals.length = len := by simpa using h.1
  have e2 : ns.length = len2 := by simpa using h2.1
  subst e1; subst e2
  have hq : ((vals.length : Int) != ns.length) = true := by rw [bne_iff_ne]; omega
  go_enter Try.func93, Try.ntmps93
  go_wp2
  go_ret2
  exact RetP.nil ((Below.refl _ _).alloc (Nat.le_refl _) _) rfl
theorem cell_new (w : World) (x : Value) (t : TypeId) : (w.alloc (.cells #[x] t)).cell? ⟨w.heap.size, 0, none⟩ = some x := by simp [go_sem]
end Go.Proofs.Ytglgjkggjpfahaa
end
section
namespace Go.Proofs.Ytglgjkggjpfahaa
open Go.RowKit
set_option linter.unusedVariables false

set_option maxRecDepth 100000 in
set_option maxHeartbeats 1000000 in
theorem pack_run (w : World) (a : Option Addr) (cap : Nat) (vals ns : List Int) (h : SlR w a vals.length cap (vals.map (Value.int .u32))) (a2 : Option Addr) (cap2 : Nat) (h2 : SlR w a2 ns.length cap2 (ns.map (Value.int .i64)))
    (hlen : vals.length = ns.length) (hn : ns.length ≤ 1000) (hr : ∀ x ∈ vals, 0 ≤ x ∧ x < 4294967296) (er : Int) (L : List Bool) (hq : pkRun [] (vals.zip ns) = (er, L)) (hL : L.length ≤ 60000) (er2 : Int) (bs : List Int)
    (hc : (er ≠ 0 ∧ er2 = er ∧ bs = []) ∨ (er = 0 ∧ ¬ L.length % 8 = 0 ∧ er2 = 10 ∧ bs = []) ∨ (er = 0 ∧ L.length % 8 = 0 ∧ er2 = 0 ∧ bs = packB L)) :
    Calls Try.prog 93 #[.slice a vals.length cap, .slice a2 ns.length cap2] w (RetP er2 bs w) := by
  have hq0 : ((vals.length : Int) != ns.length) = false := by rw [bne_eq_false_iff_eq]; omega
  have HL := Lib.hid hlen
  have HQ := Lib.hid hq
  have HC := Lib.hid hc
  clear hlen hq hc
  go_enter Try.func93, Try.ntmps93
  go_wp2_with fail
  refine (newWriter_any _).mono ?_
  rintro e w1 ⟨rfl, g1, q1⟩
  have hsz : (w.alloc (.cells #[.slice a vals.length cap] 40)).heap.size = w.heap.size + 1 := by simp
  have b0 : Below w.heap.size w (w.alloc (.cells #[.slice a vals.length cap] 40)) := (Below.refl _ _).alloc (Nat.le_refl _) _
  have b1 : Below w.heap.size w w1 := b0.grown g1 (by omega) (by intro k hk; cases hk)
  have v1 : IsB w1 w.heap.size 40 #[.slice a vals.length cap] := (IsB.new w _ _).keep0 g1
  have z1 := g1.size
  rw [hsz] at q1 z1
  have b2 := b1.alloc (by omega) (.cells #[.pointer (some ⟨w.heap.size + 1 + 1, 0, none⟩)] 100)
  have v2 := v1.alloc (.cells #[.pointer (some ⟨w.heap.size + 1 + 1, 0, none⟩)] 100)
  have w2 := IsB.new w1 100 #[.pointer (some ⟨w.heap.size + 1 + 1, 0, none⟩)]
  have q2 := q1.keep0 (gb_alloc w1 (.cells #[.pointer (some ⟨w.heap.size + 1 + 1, 0, none⟩)] 100) none)
  have HM := Lib.hid (each_pack w _ (w.heap.size + 1) (w.heap.size + 1 + 1) (w.heap.size + 1) w1.heap.size w.heap.size _ a a2 cap cap2 vals ns er L q2 (by simp; omega) w2 v2 b2 (by omega) h h2 HL.out hn hr HQ.out)
  have HW2 := Lib.hid w2
  have HB2 := Lib.hid b2
  have HZ := Lib.hid z1
  clear g1 q1 q2 b0 b1 b2 v1 v2 w2 z1 hsz
  go_wp2_with fail
  refine HM.out.mono ?_
  rintro e w3 ⟨rfl, q3, V3, q4⟩
  have HB3 := Lib.hid (show Below w.heap.size w w3 from HB2.out.trans ((q3.below (by have := HZ.out; simp; omega)).mono (by omega)))
  have HW3 := Lib.hid (q3.kind _ _ _ HW2.out (by decide) (by decide))
  have HQ4 := Lib.hid q4
  have c3 : w3.cell? ⟨w1.heap.size, 0, none⟩ = some (.pointer (some ⟨w.heap.size + 1 + 1, 0, none⟩)) := HW3.out.cell 0
  clear q3 q4 hq0
  by_cases he : er = 0
  · subst he
    by_cases hm : L.length % 8 = 0
    · have HE := Lib.hid (show er2 = 0 ∧ bs = packB L by
        rcases HC.out with ⟨k, _⟩ | ⟨_, k, _⟩ | ⟨_, _, k1, k2⟩
        · exact absurd rfl k
        · exact absurd hm k
        · exact ⟨k1, k2⟩)
      have HY := Lib.hid (bytes_even w3 _ _ _ _ _ HQ4.out hL hm)
      clear hm
      go_wp2_with fail
      refine HY.out.mono ?_
      rintro e w5 ⟨v', rfl, g5, o5, n5⟩
      have HG5 := Lib.hid g5
      have HO5 := Lib.hid o5
      have HN5 := Lib.hid n5
      clear g5 o5 n5
      go_wp2
      go_ret2
      refine ⟨v', ?_, HB3.out.grown HG5.out HB3.out.size (by intro k hk; cases hk), ?_, ?_⟩
      · rw [HE.out.1]; rfl
      · rw [HE.out.2]; exact own_low HO5.out HB3.out.size
      · rw [HE.out.2]; exact HN5.out
    · have HE := Lib.hid (show er2 = 10 ∧ bs = [] by
        rcases HC.out with ⟨k, _⟩ | ⟨_, _, k1, k2⟩ | ⟨_, k, _⟩
        · exact absurd rfl k
        · exact ⟨k1, k2⟩
        · exact absurd k hm)
      have HY := Lib.hid (bytes_odd w3 _ _ _ _ _ HQ4.out hm)
      clear hm
      go_wp2_with fail
      refine HY.out.mono ?_
      rintro e w5 ⟨rfl, g5, _⟩
      have HG5 := Lib.hid g5
      clear g5
      go_wp2
      go_ret2
      rw [HE.out.1, HE.out.2]
      exact RetP.nil (HB3.out.grown HG5.out HB3.out.size (by intro k hk; cases hk)) rfl
  · have HE := Lib.hid (show er2 = er ∧ bs = [] by
      rcases HC.out with ⟨_, k⟩ | ⟨k, _⟩ | ⟨k, _⟩
      · exact k
      · exact absurd k he
      · exact absurd k he)
    have hne : (er != 0) = true := by simpa using he
    clear he
    go_wp2
    go_ret2
    rw [HE.out.1, HE.out.2]
    exact RetP.nil HB3.out rfl
theorem pkRun_all (L : List Bool) (ps : List (Int × Int)) : (pkRun L ps).2.length ≤ L.length + 32 * ps.length := by
  induction ps generalizing L with
  | nil => simp [pkRun]
  | cons p t ih =>
    obtain ⟨v, n⟩ := p
    have k := pkRun_len L v n
    rw [pkRun, List.length_cons]
    split
    · have := ih (wrStep L v n).2; omega
    · omega
theorem pack_any (w : World) (a : Option Addr) (len cap : Nat) (vals ns : List Int) (h : SlR w a len cap (vals.map (Value.int .u32))) (a2 : Option Addr) (len2 cap2 : Nat) (h2 : SlR w a2 len2 cap2 (ns.map (Value.int .i64)))
    (hn : ns.length ≤ 1000) (hr : ∀ x ∈ vals, 0 ≤ x ∧ x < 4294967296) :
    Calls Try.prog 93 #[.slice a len cap, .slice a2 len2 cap2] w (RetP (packR vals ns).1 (packR vals ns).2 w) := by
  have e1 : vals.length = len := by simpa using h.1
  have e2 : ns.length = len2 := by simpa using h2.1
  subst e1; subst e2
  by_cases hl : vals.length = ns.length
  · have hb := pkRun_all [] (vals.zip ns)
    have hz : (vals.zip ns).length ≤ ns.length := by simp; omega
    refine pack_run w a cap vals ns h a2 cap2 h2 hl hn hr (pkRun [] (vals.zip ns)).1 (pkRun [] (vals.zip ns)).2 rfl (by simp only [List.length_nil] at hb; omega) _ _ ?_
    unfold packR
    rw [if_pos hl]
    by_cases he : (pkRun [] (vals.zip ns)).1 = 0
    · rw [if_pos he]
      by_cases hm : (pkRun [] (vals.zip ns)).2.length % 8 = 0
      · rw [if_pos hm]; exact .inr (.inr ⟨he, hm, rfl, rfl⟩)
      · rw [if_neg hm]; exact .inr (.inl ⟨he, hm, rfl, rfl⟩)
    · rw [if_neg he]; exact .inl ⟨he, rfl, rfl⟩
  · have k := pack_args w a vals.length cap vals ns h a2 ns.length cap2 h2 hl
    unfold packR
    rw [if_neg hl]
    exact k
end Go.Proofs.Ytglgjkggjpfahaa
end
section
namespace Go.Proofs.Ytglgjkggjpfahaa
open Go.RowKit
set_option linter.unusedVariables false

theorem infoU32h : (Try.prog.info? 58).map (fun i => (i.zero, i.size, i.bytes)) = some (some (.int .u32 0), 1, 4) := by kernel_rfl

/-- One number read: the error code, the number, the position behind it. -/
def rdStep (bs : List Int) (pos : Nat) (n : Int) : Int × Int × Nat :=
  if okW n then if (pos : Int) + n ≤ 8 * bs.length then (0, accB bs pos n.toNat, pos + n.toNat) else (3, 0, pos) else (10, 0, pos)
theorem rdStep_pos (bs : List Int) (pos : Nat) (n : Int) (h : pos ≤ 8 * bs.length) : (rdStep bs pos n).2.2 ≤ 8 * bs.length := by
  unfold rdStep
  split
  · rename_i h1
    have h2 : 1 ≤ n ∧ n ≤ 32 := of_decide_eq_true h1
    split
    · show pos + n.toNat ≤ 8 * bs.length; omega
    · exact h
  · exact h
theorem reads_any (w : World) (base r s : Nat) (V : Value) (bs : List Int) (pos : Nat) (n : Int) (h : Rdr w base r s V bs pos) (hb : ∀ b ∈ bs, 0 ≤ b ∧ b ≤ 255) (hn : bs.length ≤ 60000) (hp : pos ≤ 8 * bs.length)
    (er v : Int) (pos2 : Nat) (hq : rdStep bs pos n = (er, v, pos2)) :
    Calls Try.prog 65 #[.pointer (some ⟨r, 0, none⟩), .int .i64 n] w (RetQ (.tuple #[.int .u32 v, .int .i64 er]) w (some s) fun w' => Rdr w' base r s V bs pos2) := by
  unfold rdStep at hq
  by_cases hv : okW n = true
  · rw [if_pos hv] at hq
    have h2 : 1 ≤ n ∧ n ≤ 32 := of_decide_eq_true hv
    by_cases hf : (pos : Int) + n ≤ 8 * bs.length
    · rw [if_pos hf] at hq
      simp only [Prod.mk.injEq] at hq
      obtain ⟨rfl, rfl, rfl⟩ := hq
      exact reads_ok w base r s V bs pos n h hb hn h2.1 h2.2 hf
    · rw [if_neg hf] at hq
      simp only [Prod.mk.injEq] at hq
      obtain ⟨rfl, rfl, rfl⟩ := hq
      exact reads_short w base r s V bs pos n h hn h2.1 h2.2 hp (by omega)
  · rw [if_neg hv] at hq
    simp only [Prod.mk.injEq] at hq
    obtain ⟨rfl, rfl, rfl⟩ := hq
    exact reads_width w base r s V bs pos n h (by simpa using hv)

/-- What Unpack holds while it reads. -/
structure Upk (w : World) (B r s br bu : Nat) (V : Value) (bs : List Int) (pos : Nat) (U : Value) (us : List Int) : Prop where
  rd : Rdr w B r s V bs pos
  vr : IsB w br 76 #[.pointer (some ⟨r, 0, none⟩)]
  vu : IsB w bu 40 #[U]
  own : w.ownsRow B 58 1 U us.length (us.map (Value.int .u32))
  ls : B ≤ s
  lu : B ≤ bu
theorem own_two {w : World} {b1 b2 : Nat} {e1 e2 : TypeId} {s1 s2 n1 n2 : Nat} {v1 v2 : Value} {x1 x2 : List Value} (h1 : w.ownsRow b1 e1 s1 v1 n1 x1) (h2 : w.ownsRow b2 e2 s2 v2 n2 x2) (hn : e1 ≠ e2) : v1.ownBlock = none ∨ v1.ownBlock ≠ v2.ownBlock := by
  rcases h2.2 with ⟨rfl, _⟩ | ⟨g, cap, cur, rfl, _, hh, _⟩
  · cases v1.ownBlock with
    | none => exact .inl rfl
    | some k => exact .inr (by simp [Value.ownBlock])
  · exact .inr (own_ne h1 (show IsB w g e2 cur from hh) hn)
theorem Rdr.other {w w2 : World} {base r s b2 n : Nat} {V U : Value} {bs : List Int} {pos : Nat} {xs : List Value} (h : Rdr w base r s V bs pos) (hU : w.ownsRow b2 58 1 U n xs) (k : w.grownBy w2 U.ownBlock) : Rdr w2 base r s V bs pos :=
  ⟨h.rb.keep k (fun e => own_ne hU h.rb (by decide) e.symm), h.sb.keep k (fun e => own_ne hU h.sb (by decide) e.symm), h.own.kept k (own_two h.own hU (by decide))⟩

/-- One number has been read: the state that Unpack holds then. -/
def UpQ (er : Int) (w : World) (B r s br bu : Nat) (V : Value) (bs : List Int) (pos2 : Nat) (us : List Int) (e : Ending) (w' : World) : Prop :=
  e = .returned (.int .i64 er) ∧ Below B w w' ∧ ∃ U, Upk w' B r s br bu V bs pos2 U us

end Go.Proofs.Ytglgjkggjpfahaa
end
section
namespace Go.Proofs.Ytglgjkggjpfahaa
open Go.RowKit
set_option linter.unusedVariables false

/-- The numbers read one after the other, up to the first error. -/
def upRun (bs : List Int) : Nat → List Int → List Int → Int × Nat × List Int
  | pos, us, [] => (0, pos, us)
  | pos, us, n :: t => if (rdStep bs pos n).1 = 0 then upRun bs (rdStep bs pos n).2.2 (us ++ [(rdStep bs pos n).2.1]) t else ((rdStep bs pos n).1, (rdStep bs pos n).2.2, us ++ [(rdStep bs pos n).2.1])
/-- What Unpack comes to: the error code and the numbers. -/
def unpackR (bs ns : List Int) : Int × List Int :=
  if (upRun bs 0 [] ns).1 = 0 then if (upRun bs 0 [] ns).2.1 < 8 * bs.length then (4, []) else (0, (upRun bs 0 [] ns).2.2) else ((upRun bs 0 [] ns).1, [])
theorem drop_at (ns : List Int) (k : Nat) (h : k < ns.length) : ns.drop k = ns.getD k 0 :: ns.drop (k + 1) := by
  rw [List.drop_eq_getElem_cons h]; simp [h]

/-- The call returns numbers of its own and an error code. -/
def RetUh (er : Int) (us : List Int) (w : World) (e : Ending) (w' : World) : Prop :=
  ∃ v', e = .returned (.tuple #[v', .int .i64 er]) ∧ Below w.heap.size w w' ∧ w'.ownsRow w.heap.size 58 1 v' us.length (us.map (Value.int .u32))
theorem RetUh.nil {er : Int} {w w' : World} {v : Value} (h : Below w.heap.size w w') (hv : v = .int .i64 er) : RetUh er [] w (.returned (.tuple #[.slice none 0 0, v])) w' := by
  subst hv; exact ⟨_, rfl, h, World.ownsRow_nil _ _ _ _⟩
theorem upRun_pos (bs : List Int) (pos : Nat) (us ns : List Int) (h : pos ≤ 8 * bs.length) : (upRun bs pos us ns).2.1 ≤ 8 * bs.length := by
  induction ns generalizing pos us with
  | nil => exact h
  | cons n t ih =>
    rw [upRun]
    split
    · exact ih _ _ (rdStep_pos bs pos n h)
    · exact rdStep_pos bs pos n h

end Go.Proofs.Ytglgjkggjpfahaa
end
section
namespace Go.Proofs.Ytglgjkggjpfahaa
open Go.RowKit
set_option linter.unusedVariables false

theorem conv_str (w : World) (a : Option Addr) (n c : Nat) (bs : List Int) (h : SlR w a n c (bs.map (Value.int .u8))) :
    (convert 37 9 (.slice a n c)).run Try.prog w = .ok (.string (strOf bs)) w := by
  rw [run_convert_bytes_string w 37 9 5 a n c Try.underlying37 Try.underlying5 Try.underlying9]
  have hl : bs.length = n := by simpa using h.1
  subst hl
  cases a with
  | none =>
    obtain ⟨h0, rfl⟩ := h.2.1 rfl
    have hbs : bs = [] := List.length_eq_zero_iff.1 h0
    subst hbs
    simp [Conv.bytesToString, strOf, Sem.run_pure]
  | some ad =>
    have k := run_loadCells_list (P := Try.prog) (w := w) ad (bs.map (Value.int .u8)) (h.2.2 ad rfl)
    rw [List.length_map] at k
    exact run_bytesToString w ad bs.length c bs k

theorem equ_same (w : World) (a a2 : Option Addr) (n n2 c c2 : Nat) (xs : List Int) (h : SlR w a n c (xs.map (Value.int .u32))) (h2 : SlR w a2 n2 c2 (xs.map (Value.int .u32))) (hn : xs.length ≤ 60000) :
    Calls Try.prog 41 #[.slice a n c, .slice a2 n2 c2] w (RetQ (.bool true) w none fun _ => True) := by
  have e1 : xs.length = n := by simpa using h.1
  have e2 : xs.length = n2 := by simpa using h2.1
  subst e1; subst e2
  have h0 : ((xs.length : Int) != xs.length) = false := by simp
  go_enter Try.func41, Try.ntmps41
  go_wp2
  go_loopw [5] (fun i wr => ∃ k : Nat, k ≤ xs.length ∧ i = .int .i64 k ∧ w.grownBy wr none) (fun i _ => xs.length - (intOf i).toNat)
  case atStart => exact ⟨0, Nat.zero_le _, rfl, gb_refl _ _⟩
  case round =>
    obtain ⟨k, hk, rfl, hg⟩ := hrel
    have HG := Lib.hid hg
    clear hg
    by_cases hlt : k < xs.length
    · cases a with
      | none => exact absurd (h.2.1 rfl).1 (by omega)
      | some ad =>
        cases a2 with
        | none => exact absurd (h2.2.1 rfl).1 (by omega)
        | some ad2 =>
          have c1 := (h.keep0 HG.out).cellAt k hlt
          have c2 := (h2.keep0 HG.out).cellAt k hlt
          generalize xs.getD k 0 = x at *
          have hi : (k : Int) < xs.length := by omega
          have hx : (x != x) = false := by simp
          go_wp2
          go_quiet (fail)
          go_wp2
          go_roundw
          case rel => exact ⟨k + 1, by omega, by go_num, gb_trans HG.out (gb_drewN _ _ _)⟩
          case measure => simp [intOf]; omega
    · go_wp2
      go_ret
      exact ⟨rfl, HG.out, trivial⟩

end Go.Proofs.Ytglgjkggjpfahaa
end
section
namespace Go.Proofs.Ytglgjkggjpfahaa
open Go.RowKit
set_option linter.unusedVariables false

def sumL : List Int → Nat
  | [] => 0
  | n :: t => n.toNat + sumL t
def goodL (l : List Int) : Prop := ∀ n ∈ l, 1 ≤ n ∧ n ≤ 32
def numsB (bs : List Int) : Nat → List Int → List Int
  | _, [] => []
  | pos, n :: t => accB bs pos n.toNat :: numsB bs (pos + n.toNat) t
def bitsTo (bs : List Int) (p : Nat) : List Bool := (List.range p).map fun j => decide (bitAt bs j = 1)
theorem numsB_len (bs : List Int) (pos : Nat) (l : List Int) : (numsB bs pos l).length = l.length := by
  induction l generalizing pos with
  | nil => rfl
  | cons n t ih => simp [numsB, ih]
theorem goodL_tail {n : Int} {t : List Int} (h : goodL (n :: t)) : (1 ≤ n ∧ n ≤ 32) ∧ goodL t := ⟨h n (by simp), fun m hm => h m (by simp [hm])⟩
theorem rd_good (bs : List Int) (pos : Nat) (n : Int) (h1 : 1 ≤ n ∧ n ≤ 32) (h2 : pos + n.toNat ≤ 8 * bs.length) : rdStep bs pos n = (0, accB bs pos n.toNat, pos + n.toNat) := by
  unfold rdStep
  rw [if_pos (show okW n = true from decide_eq_true h1), if_pos (by omega)]
theorem upRun_good (bs : List Int) (l : List Int) (pos : Nat) (us : List Int) (hg : goodL l) (h : pos + sumL l ≤ 8 * bs.length) : upRun bs pos us l = (0, pos + sumL l, us ++ numsB bs pos l) := by
  induction l generalizing pos us with
  | nil => simp [upRun, sumL, numsB]
  | cons n t ih =>
    obtain ⟨hn, ht⟩ := goodL_tail hg
    simp only [sumL] at h
    rw [upRun, rd_good bs pos n hn (by omega)]
    simp only [if_true]
    rw [ih _ _ ht (by omega)]
    simp [numsB, sumL]
    omega
theorem acc_bit (bs : List Int) (pos n i : Nat) (hi : i < n) : accB bs pos n / 2 ^ (n - 1 - i) % 2 = bitAt bs (pos + i) := by
  induction n with
  | zero => omega
  | succ n ih =>
    have b := bitAt_range bs (pos + n)
    simp only [accB]
    by_cases e : i = n
    · subst e
      rw [show i + 1 - 1 - i = 0 by omega]
      simp; omega
    · have k := ih (by omega)
      rw [show n + 1 - 1 - i = (n - 1 - i) + 1 by omega, Int.pow_succ, Int.mul_comm (2 ^ (n - 1 - i)) 2, ← Int.ediv_ediv_of_nonneg (by decide : (0 : Int) ≤ 2)]
      rw [show (2 * accB bs pos n + bitAt bs (pos + n)) / 2 = accB bs pos n by omega]
      exact k
theorem bits_acc (bs : List Int) (pos n : Nat) : bitsOf (accB bs pos n) n = (List.range n).map fun i => decide (bitAt bs (pos + i) = 1) := by
  unfold bitsOf
  apply List.map_congr_left
  intro i hi
  have hi := List.mem_range.1 hi
  unfold vb
  rw [acc_bit bs pos n i hi]
theorem bitsTo_add (bs : List Int) (p n : Nat) : bitsTo bs (p + n) = bitsTo bs p ++ bitsOf (accB bs p n) n := by
  rw [bits_acc]
  unfold bitsTo
  rw [List.range_add, List.map_append, List.map_map]
  rfl
theorem bitsTo_len (bs : List Int) (p : Nat) : (bitsTo bs p).length = p := by simp [bitsTo]
theorem wr_good (L : List Bool) (v n : Int) (h1 : 1 ≤ n ∧ n ≤ 32) (h2 : v < 2 ^ n.toNat) : wrStep L v n = (0, L ++ bitsOf v n.toNat) := by
  unfold wrStep
  rw [if_pos (show okW n = true from decide_eq_true h1), if_pos (show fitsB v n = true from decide_eq_true ⟨h1.1, h1.2, h2⟩)]
theorem pkRun_good (bs : List Int) (l : List Int) (pos : Nat) (hg : goodL l) : pkRun (bitsTo bs pos) ((numsB bs pos l).zip l) = (0, bitsTo bs (pos + sumL l)) := by
  induction l generalizing pos with
  | nil => simp [numsB, pkRun, sumL]
  | cons n t ih =>
    obtain ⟨hn, ht⟩ := goodL_tail hg
    simp only [numsB, List.zip_cons_cons]
    rw [pkRun, wr_good _ _ _ hn (accB_range bs pos n.toNat).2]
    simp only [if_true]
    rw [← bitsTo_add, ih _ ht]
    simp only [sumL]
    rw [Nat.add_assoc]
theorem bv_bits (bs : List Int) (p q : Nat) (h : q < p) : bv (bitsTo bs p) q = bitAt bs q := by
  have b := bitAt_range bs q
  unfold bv bitsTo
  by_cases e : bitAt bs q = 1
  · simp [h, e]
  · simp [h, e]; omega
theorem byte_bits (x : Int) (h0 : 0 ≤ x) (h1 : x ≤ 255) : x / 128 % 2 * 128 + x / 64 % 2 * 64 + x / 32 % 2 * 32 + x / 16 % 2 * 16 + x / 8 % 2 * 8 + x / 4 % 2 * 4 + x / 2 % 2 * 2 + x % 2 = x := by omega
theorem byteAt_bits (bs : List Int) (i : Nat) (hi : i < bs.length) (hb : 0 ≤ bs.getD i 0 ∧ bs.getD i 0 ≤ 255) : byteAt (bitsTo bs (8 * bs.length)) i = bs.getD i 0 := by
  have e : ∀ j, j < 8 → bv (bitsTo bs (8 * bs.length)) (8 * i + j) = bs.getD i 0 / 2 ^ (7 - j) % 2 := by
    intro j hj
    rw [bv_bits _ _ _ (by omega)]
    unfold bitAt
    rw [show (8 * i + j) / 8 = i by omega, show (8 * i + j) % 8 = j by omega]
  have e0 := e 0 (by omega); have e1 := e 1 (by omega); have e2 := e 2 (by omega); have e3 := e 3 (by omega)
  have e4 := e 4 (by omega); have e5 := e 5 (by omega); have e6 := e 6 (by omega); have e7 := e 7 (by omega)
  unfold byteAt
  rw [show 8 * i = 8 * i + 0 from rfl] 
  rw [e0, e1, e2, e3, e4, e5, e6, e7]
  have k := byte_bits _ hb.1 hb.2
  simpa using k
theorem pack_bits (bs : List Int) (hb : ∀ b ∈ bs, 0 ≤ b ∧ b ≤ 255) : packB (bitsTo bs (8 * bs.length)) = bs := by
  apply List.ext_getElem
  · rw [packB_len, bitsTo_len]; omega
  · intro i h1 h2
    rw [packB_at]
    have k := hb bs[i] (List.getElem_mem h2)
    rw [byteAt_bits bs i h2 (by simpa [h2] using k)]
    simp [h2]
/-- What has been unpacked whole packs to the same bytes. -/
theorem repack_eq (bs l : List Int) (hb : ∀ b ∈ bs, 0 ≤ b ∧ b ≤ 255) (hg : goodL l) (hs : sumL l = 8 * bs.length) :
    unpackR bs l = (0, numsB bs 0 l) ∧ packR (numsB bs 0 l) l = (0, bs) := by
  have u := upRun_good bs l 0 [] hg (by omega)
  have p := pkRun_good bs l 0 hg
  rw [Nat.zero_add] at u p
  constructor
  · unfold unpackR
    rw [u]
    simp only [if_true]
    rw [if_neg (by omega)]
    simp
  · unfold packR
    rw [if_pos (numsB_len bs 0 l), show ([] : List Bool) = bitsTo bs 0 from rfl, p]
    simp only [if_true]
    rw [hs, pack_bits bs hb, if_pos (by rw [bitsTo_len]; omega)]
theorem unpack_left (bs l : List Int) (hg : goodL l) (hs : sumL l < 8 * bs.length) : unpackR bs l = (4, []) := by
  have u := upRun_good bs l 0 [] hg (by omega)
  rw [Nat.zero_add] at u
  unfold unpackR
  rw [u]
  simp only [if_true]
  rw [if_pos hs]
theorem numsB_range (bs l : List Int) (pos : Nat) (hg : goodL l) : ∀ x ∈ numsB bs pos l, 0 ≤ x ∧ x < 4294967296 := by
  induction l generalizing pos with
  | nil => intro x hx; simp [numsB] at hx
  | cons n t ih =>
    obtain ⟨hn, ht⟩ := goodL_tail hg
    intro x hx
    simp only [numsB, List.mem_cons] at hx
    rcases hx with rfl | hx
    · have r := accB_range bs pos n.toNat
      have p := pow_le32 n hn.2
      omega
    · exact ih _ ht x hx
theorem sumL_snoc (l : List Int) (n : Int) : sumL (l ++ [n]) = sumL l + n.toNat := by
  induction l with
  | nil => simp [sumL]
  | cons m t ih => simp only [List.cons_append, sumL, ih]; omega
theorem goodL_snoc {l : List Int} {n : Int} (h : goodL l) (hn : 1 ≤ n ∧ n ≤ 32) : goodL (l ++ [n]) := by
  intro m hm
  rcases List.mem_append.1 hm with k | k
  · exact h m k
  · simp at k; subst k; exact hn
end Go.Proofs.Ytglgjkggjpfahaa
end
section
namespace Go.Proofs.Ytglgjkggjpfahaa
open Go.RowKit
set_option linter.unusedVariables false

theorem digit (a0 a1 a2 a3 a4 a5 a6 a7 : Int) (h : (0 ≤ a0 ∧ a0 ≤ 1) ∧ (0 ≤ a1 ∧ a1 ≤ 1) ∧ (0 ≤ a2 ∧ a2 ≤ 1) ∧ (0 ≤ a3 ∧ a3 ≤ 1) ∧ (0 ≤ a4 ∧ a4 ≤ 1) ∧ (0 ≤ a5 ∧ a5 ≤ 1) ∧ (0 ≤ a6 ∧ a6 ≤ 1) ∧ (0 ≤ a7 ∧ a7 ≤ 1)) :
    (a0 * 128 + a1 * 64 + a2 * 32 + a3 * 16 + a4 * 8 + a5 * 4 + a6 * 2 + a7) / 128 % 2 = a0 ∧ (a0 * 128 + a1 * 64 + a2 * 32 + a3 * 16 + a4 * 8 + a5 * 4 + a6 * 2 + a7) / 64 % 2 = a1 ∧
    (a0 * 128 + a1 * 64 + a2 * 32 + a3 * 16 + a4 * 8 + a5 * 4 + a6 * 2 + a7) / 32 % 2 = a2 ∧ (a0 * 128 + a1 * 64 + a2 * 32 + a3 * 16 + a4 * 8 + a5 * 4 + a6 * 2 + a7) / 16 % 2 = a3 ∧
    (a0 * 128 + a1 * 64 + a2 * 32 + a3 * 16 + a4 * 8 + a5 * 4 + a6 * 2 + a7) / 8 % 2 = a4 ∧ (a0 * 128 + a1 * 64 + a2 * 32 + a3 * 16 + a4 * 8 + a5 * 4 + a6 * 2 + a7) / 4 % 2 = a5 ∧
    (a0 * 128 + a1 * 64 + a2 * 32 + a3 * 16 + a4 * 8 + a5 * 4 + a6 * 2 + a7) / 2 % 2 = a6 ∧ (a0 * 128 + a1 * 64 + a2 * 32 + a3 * 16 + a4 * 8 + a5 * 4 + a6 * 2 + a7) % 2 = a7 := by
  refine ⟨?_, ?_, ?_, ?_, ?_, ?_, ?_, ?_⟩ <;> omega
/-- A bit of the packed bytes is the bit that was packed. -/
theorem bit_pack (L : List Bool) (p : Nat) (h : p < L.length) : bitAt (packB L) p = bv L p := by
  unfold bitAt
  rw [packB_get L (p / 8) (by omega)]
  have hd : 8 * (p / 8) + p % 8 = p := Nat.div_add_mod _ _
  have hr : p % 8 < 8 := Nat.mod_lt _ (by decide)
  generalize hq : p / 8 = q at *
  generalize hm : p % 8 = m at *
  have D := digit (bv L (8 * q)) (bv L (8 * q + 1)) (bv L (8 * q + 2)) (bv L (8 * q + 3)) (bv L (8 * q + 4)) (bv L (8 * q + 5)) (bv L (8 * q + 6)) (bv L (8 * q + 7))
    ⟨bv_range _ _, bv_range _ _, bv_range _ _, bv_range _ _, bv_range _ _, bv_range _ _, bv_range _ _, bv_range _ _⟩
  have cs : m = 0 ∨ m = 1 ∨ m = 2 ∨ m = 3 ∨ m = 4 ∨ m = 5 ∨ m = 6 ∨ m = 7 := by omega
  unfold byteAt
  rcases cs with e | e | e | e | e | e | e | e
  · subst e; rw [← hd]; simpa using D.1
  · subst e; rw [← hd]; simpa using D.2.1
  · subst e; rw [← hd]; simpa using D.2.2.1
  · subst e; rw [← hd]; simpa using D.2.2.2.1
  · subst e; rw [← hd]; simpa using D.2.2.2.2.1
  · subst e; rw [← hd]; simpa using D.2.2.2.2.2.1
  · subst e; rw [← hd]; simpa using D.2.2.2.2.2.2.1
  · subst e; rw [← hd]; simpa using D.2.2.2.2.2.2.2
theorem acc_of (bs : List Int) (pos n : Nat) (v : Int) (h0 : 0 ≤ v) (h1 : v < 2 ^ n) (h : ∀ i, i < n → bitAt bs (pos + i) = v / 2 ^ (n - 1 - i) % 2) : accB bs pos n = v := by
  induction n generalizing v with
  | zero => simp at h1; simp only [accB]; omega
  | succ n ih =>
    have k := ih (v / 2) (by omega) (by rw [Int.pow_succ] at h1; omega) (by
      intro i hi
      have e := h i (by omega)
      rw [show n + 1 - 1 - i = (n - 1 - i) + 1 by omega, Int.pow_succ, Int.mul_comm (2 ^ (n - 1 - i)) 2, ← Int.ediv_ediv_of_nonneg (by decide : (0 : Int) ≤ 2)] at e
      exact e)
    have e := h n (by omega)
    rw [show n + 1 - 1 - n = 0 by omega] at e
    simp only [accB]
    rw [k, e]
    simp
    omega

/-- The width and the number that the law makes of its arguments. -/
def nA (ws : List Int) (k : Nat) : Int := 1 + ws.getD k 0 % 32
def vA (vals ws : List Int) (k : Nat) : Int := vals.getD k 0 / 2 ^ (32 - nA ws k).toNat
def Lk (vals ws : List Int) : Nat → List Bool
  | 0 => []
  | k + 1 => Lk vals ws k ++ bitsOf (vA vals ws k) (nA ws k).toNat
def vk (vals ws : List Int) (k : Nat) : List Int := (List.range k).map (vA vals ws)
theorem nA_range (ws : List Int) (k : Nat) : 1 ≤ nA ws k ∧ nA ws k ≤ 32 := by unfold nA; omega
theorem vA_range (vals ws : List Int) (k : Nat) (h : 0 ≤ vals.getD k 0 ∧ vals.getD k 0 < 4294967296) : 0 ≤ vA vals ws k ∧ vA vals ws k < 2 ^ (nA ws k).toNat := by
  have n := nA_range ws k
  unfold vA
  have hp := pow_pos' (32 - nA ws k).toNat
  refine ⟨Int.ediv_nonneg h.1 (Int.le_of_lt hp), ?_⟩
  apply Int.ediv_lt_of_lt_mul hp
  rw [← Int.pow_add, show (nA ws k).toNat + (32 - nA ws k).toNat = 32 by omega]
  simpa using h.2
theorem vk_len (vals ws : List Int) (k : Nat) : (vk vals ws k).length = k := by simp [vk]
theorem vk_succ (vals ws : List Int) (k : Nat) : vk vals ws (k + 1) = vk vals ws k ++ [vA vals ws k] := by simp [vk, List.range_succ]
theorem vk_get (vals ws : List Int) (m k : Nat) (h : k < m) : (vk vals ws m).getD k 0 = vA vals ws k := by simp [vk, h]
theorem Lk_len_succ (vals ws : List Int) (k : Nat) : (Lk vals ws (k + 1)).length = (Lk vals ws k).length + (nA ws k).toNat := by simp [Lk, bitsOf_len]
theorem Lk_len_le (vals ws : List Int) (k : Nat) : (Lk vals ws k).length ≤ 32 * k := by
  induction k with
  | zero => simp [Lk]
  | succ k ih => rw [Lk_len_succ]; have := nA_range ws k; omega
theorem Lk_mono (vals ws : List Int) (k m : Nat) (h : k ≤ m) : ∃ R, Lk vals ws m = Lk vals ws k ++ R := by
  induction m with
  | zero =>
    have e : k = 0 := by omega
    rw [e]; exact ⟨[], by simp⟩
  | succ m ih =>
    by_cases e : k = m + 1
    · subst e; exact ⟨[], by simp⟩
    · obtain ⟨R, hR⟩ := ih (by omega)
      exact ⟨R ++ bitsOf (vA vals ws m) (nA ws m).toNat, by rw [Lk, hR, List.append_assoc]⟩
/-- The k-th number is read back at its place, whatever bits follow. -/
theorem read_back (vals ws : List Int) (m k : Nat) (R : List Bool) (hk : k < m) (h : 0 ≤ vals.getD k 0 ∧ vals.getD k 0 < 4294967296) :
    accB (packB (Lk vals ws m ++ R)) (Lk vals ws k).length (nA ws k).toNat = vA vals ws k := by
  have hv := vA_range vals ws k h
  refine acc_of _ _ _ _ hv.1 hv.2 ?_
  intro i hi
  obtain ⟨R2, hR2⟩ := Lk_mono vals ws (k + 1) m (by omega)
  have hlen : (Lk vals ws k).length + i < (Lk vals ws m ++ R).length := by
    rw [hR2]
    simp only [List.length_append, Lk_len_succ]; omega
  rw [bit_pack _ _ hlen]
  have e : (Lk vals ws m ++ R).getD ((Lk vals ws k).length + i) false = vb (vA vals ws k) (nA ws k).toNat i := by
    rw [hR2, Lk, List.append_assoc, List.append_assoc, List.getD_eq_getElem?_getD, List.getElem?_append_right (by omega), Nat.add_sub_cancel_left, List.getElem?_append_left (by rw [bitsOf_len]; exact hi)]
    simp [bitsOf, hi]
  unfold bv
  rw [e]
  unfold vb
  by_cases q : vA vals ws k / 2 ^ ((nA ws k).toNat - 1 - i) % 2 = 1
  · simp [q]
  · simp [q]; omega
theorem wrStep_k (vals ws : List Int) (k : Nat) (h : 0 ≤ vals.getD k 0 ∧ vals.getD k 0 < 4294967296) : wrStep (Lk vals ws k) (vA vals ws k) (nA ws k) = (0, Lk vals ws (k + 1)) :=
  wr_good _ _ _ (nA_range ws k) (vA_range vals ws k h).2
theorem wrStep_pad (L : List Bool) (n : Int) (h : 1 ≤ n ∧ n ≤ 32) : wrStep L 0 n = (0, L ++ bitsOf 0 n.toNat) := wr_good _ _ _ h (pow_pos' _)
end Go.Proofs.Ytglgjkggjpfahaa
end
