/- The walks of bitio's ReadBits and Rest; no condition but sizes within 60000. -/
import Derived.Test.YtgknooblnpmloaaIoA
namespace Go.Proofs.Ytgknooblnpmloaa
open Go.RowKit

/-- The number that the k bits from pos on make. -/
def accB (bs : List Int) (pos : Nat) : Nat → Int
  | 0 => 0
  | k + 1 => 2 * accB bs pos k + bitAt bs (pos + k)
theorem bitAt_range (bs : List Int) (p : Nat) : 0 ≤ bitAt bs p ∧ bitAt bs p ≤ 1 := by unfold bitAt; omega
theorem accB_range (bs : List Int) (pos k : Nat) : 0 ≤ accB bs pos k ∧ accB bs pos k < 2 ^ k := by
  induction k with
  | zero => simp [accB]
  | succ k ih =>
    have := bitAt_range bs (pos + k)
    simp only [accB, Int.pow_succ]
    omega
theorem acc_step (bs : List Int) (pos k : Nat) (hk : k < 32) : bits .or .u32 (accB bs pos k * 2 % 4294967296) (bitAt bs (pos + k)) = accB bs pos (k + 1) := by
  have r := accB_range bs pos k
  have b := bitAt_range bs (pos + k)
  have p := pow_mono (k + 1) 32 (by omega)
  rw [Int.pow_succ] at p
  have p2 : (2 : Int) ^ 32 = 4294967296 := by decide
  rw [Int.emod_eq_of_lt (by omega) (by omega)]
  have j := bits_join .u32 32 (by decide) wraps_u32 1 (accB bs pos k * 2) (bitAt bs (pos + k)) (by omega) (by simp) (by omega) b.1 (by simp; omega) (by omega)
  rw [j]; simp only [accB]; omega

theorem ret_ii {k k2 : IntKind} {a b c d : Int} (h : a = b) (g : c = d) : Ending.returned (.tuple #[.int k a, .int k2 c]) = .returned (.tuple #[.int k b, .int k2 d]) := by rw [h, g]
theorem reads_ok (w : World) (base r s : Nat) (V : Value) (bs : List Int) (pos : Nat) (n : Int) (h : Rdr w base r s V bs pos) (hb : ∀ b ∈ bs, 0 ≤ b ∧ b ≤ 255) (hn : bs.length ≤ 60000)
    (h1 : 1 ≤ n) (h2 : n ≤ 32) (hp : (pos : Int) + n ≤ 8 * bs.length) :
    Calls Try.prog 18 #[.pointer (some ⟨r, 0, none⟩), .int .i64 n] w (RetQ (.tuple #[.int .u32 (accB bs pos n.toNat), .int .i64 0]) w (some s) fun w' => Rdr w' base r s V bs (pos + n.toNat)) := by
  obtain ⟨g, c, rfl⟩ := own_head h.own (by omega)
  have c0 : w.cell? ⟨r, 0, none⟩ = some (.pointer (some ⟨s, 0, none⟩)) := h.rb.cell 0
  have HV := Lib.hid (show okW n = true by simp [okW, h1, h2])
  have hle : ¬ (bs.length : Int) * 8 - pos < n := by omega
  have hm := (iovalid_any n w)
  rw [HV.out] at hm
  have HM := Lib.hid hm
  clear hm
  go_enter Try.func18, Try.ntmps18
  go_wp2_with fail
  refine (rmade_yes _ _ _ h.rb).mono ?_
  rintro e w1 ⟨rfl, rfl⟩
  go_wp2_with fail
  refine HM.out.mono ?_
  rintro e w2 ⟨rfl, g2, _⟩
  have h3 := h.keep0 g2
  have c3 : w2.cell? ⟨r, 0, none⟩ = some (.pointer (some ⟨s, 0, none⟩)) := h3.rb.cell 0
  go_wp2_with fail
  refine (remaining_any _ _ _ _ _ _ h3.sb hn (by omega)).mono ?_
  rintro e w3 ⟨rfl, g3, _⟩
  have h4 := h3.keep0 g3
  have g4 := gb_any (row := some s) (gb_trans g2 g3)
  clear g2 g3 h3 c3 c0
  go_wp2_with fail
  go_loopw [6, 21] (fun v i wr => ∃ k : Nat, k ≤ n.toNat ∧ v = .int .u32 (accB bs pos k) ∧ i = .int .i64 k ∧ Rdr wr base r s (.slice (some ⟨g, 0, none⟩) bs.length c) bs (pos + k) ∧ w.grownBy wr (some s)) (fun _ i _ => n.toNat - (intOf i).toNat)
  case atStart => exact ⟨0, Nat.zero_le _, rfl, rfl, h4, g4⟩
  case round =>
    obtain ⟨k, hk, rfl, rfl, hr, hg⟩ := hrel
    clear h4 g4 h
    by_cases hlt : (k : Int) < n
    · have c5 : wr.cell? ⟨r, 0, none⟩ = some (.pointer (some ⟨s, 0, none⟩)) := hr.rb.cell 0
      have hd := own_cell hr.own ((pos + k) / 8) (by omega)
      have hx := hb (bs.getD ((pos + k) / 8) 0) (by rw [List.getD_eq_getElem?_getD, List.getElem?_eq_getElem (by omega)]; exact List.getElem_mem _)
      have HN := Lib.hid (nextBit_any wr s g c bs (pos + k) _ hr.sb hd rfl hx.1 hx.2 (by omega) hn)
      have HS := Lib.hid (acc_step bs pos k (by omega))
      have HR := Lib.hid hr
      clear hd hx hr
      go_wp2_with fail
      refine HN.out.mono ?_
      rintro e w5 ⟨rfl, g5, q5⟩
      go_wp2
      go_roundw
      case rel => exact ⟨k + 1, by omega, by rw [HS.out], by go_num, HR.out.step g5 q5, gb_trans hg g5⟩
      case measure => simp [intOf]; omega
    · have EK := Lib.hid (show k = n.toNat by omega)
      go_wp2
      go_ret2
      exact ⟨ret_ii (by rw [EK.out]) rfl, hg, by rw [← EK.out]; exact hr⟩

theorem reads_width (w : World) (base r s : Nat) (V : Value) (bs : List Int) (pos : Nat) (n : Int) (h : Rdr w base r s V bs pos) (hv : okW n = false) :
    Calls Try.prog 18 #[.pointer (some ⟨r, 0, none⟩), .int .i64 n] w (RetQ (.tuple #[.int .u32 0, .int .i64 10]) w (some s) fun w' => Rdr w' base r s V bs pos) := by
  have hm := (iovalid_any n w)
  rw [hv] at hm
  have HM := Lib.hid hm
  clear hm hv
  go_enter Try.func18, Try.ntmps18
  go_wp2_with fail
  refine (rmade_yes _ _ _ h.rb).mono ?_
  rintro e w1 ⟨rfl, rfl⟩
  go_wp2_with fail
  refine HM.out.mono ?_
  rintro e w2 ⟨rfl, g2, _⟩
  have h3 := h.keep0 g2
  go_wp2
  go_ret2
  exact ⟨rfl, gb_any g2, h3⟩
theorem reads_short (w : World) (base r s : Nat) (V : Value) (bs : List Int) (pos : Nat) (n : Int) (h : Rdr w base r s V bs pos) (hn : bs.length ≤ 60000)
    (h1 : 1 ≤ n) (h2 : n ≤ 32) (hq : pos ≤ 8 * bs.length) (hp : 8 * (bs.length : Int) < pos + n) :
    Calls Try.prog 18 #[.pointer (some ⟨r, 0, none⟩), .int .i64 n] w (RetQ (.tuple #[.int .u32 0, .int .i64 3]) w (some s) fun w' => Rdr w' base r s V bs pos) := by
  obtain ⟨a, c, rfl⟩ := own_shape h.own
  have HV := Lib.hid (show okW n = true by simp [okW, h1, h2])
  have hle : (bs.length : Int) * 8 - pos < n := by omega
  have hm := (iovalid_any n w)
  rw [HV.out] at hm
  have HM := Lib.hid hm
  clear hm
  go_enter Try.func18, Try.ntmps18
  go_wp2_with fail
  refine (rmade_yes _ _ _ h.rb).mono ?_
  rintro e w1 ⟨rfl, rfl⟩
  go_wp2_with fail
  refine HM.out.mono ?_
  rintro e w2 ⟨rfl, g2, _⟩
  have h3 := h.keep0 g2
  have c3 : w2.cell? ⟨r, 0, none⟩ = some (.pointer (some ⟨s, 0, none⟩)) := h3.rb.cell 0
  go_wp2_with fail
  refine (remaining_any _ _ _ _ _ _ h3.sb hn (by omega)).mono ?_
  rintro e w3 ⟨rfl, g3, _⟩
  have h4 := h3.keep0 g3
  have g4 := gb_any (row := some s) (gb_trans g2 g3)
  clear g2 g3 h3 c3
  go_wp2
  go_ret2
  exact ⟨rfl, g4, h4⟩
theorem reads_nil (w : World) (n : Int) : Calls Try.prog 18 #[.pointer none, .int .i64 n] w (RetQ (.tuple #[.int .u32 0, .int .i64 1]) w none fun _ => True) := by
  go_enter Try.func18, Try.ntmps18
  go_wp2_with (go_at_call 40; refine (rmade_nil _).mono ?_; rintro e w' ⟨rfl, rfl⟩)
  go_ret2
  exact ⟨rfl, gb_refl _ _, trivial⟩
theorem reads_raw (w : World) (r : Nat) (n : Int) (h : IsB w r 74 #[.pointer none]) : Calls Try.prog 18 #[.pointer (some ⟨r, 0, none⟩), .int .i64 n] w (RetQ (.tuple #[.int .u32 0, .int .i64 1]) w none fun _ => True) := by
  go_enter Try.func18, Try.ntmps18
  go_wp2_with (go_at_call 40; refine (rmade_raw _ _ h).mono ?_; rintro e w' ⟨rfl, rfl⟩)
  go_ret2
  exact ⟨rfl, gb_refl _ _, trivial⟩
end Go.Proofs.Ytgknooblnpmloaa
