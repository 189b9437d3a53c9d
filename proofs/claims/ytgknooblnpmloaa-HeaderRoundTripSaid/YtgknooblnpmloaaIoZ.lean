/- The walks of bitio's writer: Len and Bytes; no condition but sizes within 60000. -/
import Derived.Test.YtgknooblnpmloaaIoY
namespace Go.Proofs.Ytgknooblnpmloaa
open Go.RowKit

theorem len_nil (w : World) : Calls Try.prog 33 #[.pointer none] w (RetQ (.int .i64 0) w none fun _ => True) := by
  go_enter Try.func33, Try.ntmps33
  go_wp2_with (go_at_call 45; refine (wmade_nil _).mono ?_; rintro e w' ⟨rfl, rfl⟩)
  go_ret
  exact ⟨rfl, gb_refl _ _, trivial⟩
theorem len_raw (w : World) (r : Nat) (h : IsB w r 77 #[.pointer none]) : Calls Try.prog 33 #[.pointer (some ⟨r, 0, none⟩)] w (RetQ (.int .i64 0) w none fun _ => True) := by
  go_enter Try.func33, Try.ntmps33
  go_wp2_with (go_at_call 45; refine (wmade_raw _ _ h).mono ?_; rintro e w' ⟨rfl, rfl⟩)
  go_ret
  exact ⟨rfl, gb_refl _ _, trivial⟩
theorem len_any (w : World) (base r s : Nat) (V : Value) (L : List Bool) (h : Wtr w base r s V L) : Calls Try.prog 33 #[.pointer (some ⟨r, 0, none⟩)] w fun e w' => e = .returned (.int .i64 L.length) ∧ w = w' := by
  have c0 : w.cell? ⟨r, 0, none⟩ = some (.pointer (some ⟨s, 0, none⟩)) := h.wb.cell 0
  have c1 : w.cell? ⟨s, 1, none⟩ = some (.int .i64 L.length) := h.st.sb.cell 1
  go_enter Try.func33, Try.ntmps33
  go_wp2_with (go_at_call 45; refine (wmade_yes _ _ _ h.wb).mono ?_; rintro e w' ⟨rfl, rfl⟩)
  go_ret
  exact ⟨rfl, rfl⟩
theorem bytes_nil (w : World) : Calls Try.prog 31 #[.pointer none] w (RetQ (.tuple #[.slice none 0 0, .int .i64 1]) w none fun _ => True) := by
  go_enter Try.func31, Try.ntmps31
  go_wp2_with (go_at_call 45; refine (wmade_nil _).mono ?_; rintro e w' ⟨rfl, rfl⟩)
  go_ret2
  exact ⟨rfl, gb_refl _ _, trivial⟩
theorem bytes_raw (w : World) (r : Nat) (h : IsB w r 77 #[.pointer none]) : Calls Try.prog 31 #[.pointer (some ⟨r, 0, none⟩)] w (RetQ (.tuple #[.slice none 0 0, .int .i64 1]) w none fun _ => True) := by
  go_enter Try.func31, Try.ntmps31
  go_wp2_with (go_at_call 45; refine (wmade_raw _ _ h).mono ?_; rintro e w' ⟨rfl, rfl⟩)
  go_ret2
  exact ⟨rfl, gb_refl _ _, trivial⟩
theorem bytes_odd (w : World) (base r s : Nat) (V : Value) (L : List Bool) (h : Wtr w base r s V L) (hp : ¬ L.length % 8 = 0) :
    Calls Try.prog 31 #[.pointer (some ⟨r, 0, none⟩)] w (RetQ (.tuple #[.slice none 0 0, .int .i64 10]) w none fun _ => True) := by
  have c0 : w.cell? ⟨r, 0, none⟩ = some (.pointer (some ⟨s, 0, none⟩)) := h.wb.cell 0
  have c1 : w.cell? ⟨s, 1, none⟩ = some (.int .i64 L.length) := h.st.sb.cell 1
  have hq : ((L.length : Int) % 8 != 0) = true := by rw [bne_iff_ne]; omega
  go_enter Try.func31, Try.ntmps31
  go_wp2_with (go_at_call 45; refine (wmade_yes _ _ _ h.wb).mono ?_; rintro e w' ⟨rfl, rfl⟩)
  go_ret2
  exact ⟨rfl, gb_refl _ _, trivial⟩
set_option maxRecDepth 100000 in
theorem bytes_even (w : World) (base r s : Nat) (V : Value) (L : List Bool) (h : Wtr w base r s V L) (hn : L.length ≤ 60000) (hp : L.length % 8 = 0) :
    Calls Try.prog 31 #[.pointer (some ⟨r, 0, none⟩)] w (RetS (packB L) w w.heap.size) := by
  obtain ⟨i0, hi, hz0, hz1, hz2⟩ := info_parts infoU8
  have c0 : w.cell? ⟨r, 0, none⟩ = some (.pointer (some ⟨s, 0, none⟩)) := h.wb.cell 0
  have c1 : w.cell? ⟨s, 1, none⟩ = some (.int .i64 L.length) := h.st.sb.cell 1
  have hq : ((L.length : Int) % 8 != 0) = false := by rw [bne_eq_false_iff_eq]; omega
  have hl : (packB L).length ≤ 60000 := by rw [packB_len]; omega
  have HM := Lib.hid h.wb
  rcases h.st.own.2 with ⟨rfl, hz⟩ | ⟨g, cap, cur, rfl, _⟩
  · have c2 : w.cell? ⟨s, 0, none⟩ = some (.slice none 0 0) := h.st.sb.cell 0
    have HI := Lib.hid hi
    have HZ := Lib.hid (List.length_eq_zero_iff.1 hz)
    clear hi hz hz0 hz1 hz2 h hl hp
    go_enter Try.func31, Try.ntmps31
    go_wp2_with (first | (go_at_call 45; refine (wmade_yes _ _ _ HM.out).mono ?_; rintro e w' ⟨rfl, rfl⟩) | (at_builtin; refine wpList_append_own_none rfl _ _ 33 rfl w.heap.size 5 i0 1 Try.underlying33 HI.out _ _ _ rfl (World.ownsRow_nil _ _ _ _) rfl ?_))
    go_ret2
    refine ⟨_, rfl, gb_refl _ _, ?_, fun _ => rfl⟩
    rw [HZ.out]; exact World.ownsRow_nil _ _ _ _
  · have c2 : w.cell? ⟨s, 0, none⟩ = some (.slice (some ⟨g, 0, none⟩) (packB L).length cap) := h.st.sb.cell 0
    have HC := Lib.hid (h.st.own.cells (g := g) rfl)
    have HI := Lib.hid hi
    clear hi hp h
    go_enter Try.func31, Try.ntmps31
    go_wp2_with (first | (go_at_call 45; refine (wmade_yes _ _ _ HM.out).mono ?_; rintro e w' ⟨rfl, rfl⟩) | (at_builtin; refine wpList_append_own _ rfl _ _ 33 rfl w.heap.size 5 i0 (.int .u8 0) 1 1 Try.underlying33 HI.out hz0 hz1 hz2 rfl (by decide) _ 0 [] rfl (World.ownsRow_nil _ _ _ _) ⟨g, 0, none⟩ (packB L).length cap ((packB L).map (Value.int .u8)) rfl ?c1 HC.out (ints_one _ _) ?c3 ?c4 ?c5 ?_))
    case c1 => simp
    case c3 => unfold maxLen; omega
    case c4 => omega
    case c5 => exact Nat.le_refl _
    · intro v' w1 hown hg hiff
      have HO := Lib.hid hown
      have HF := Lib.hid hiff
      have HG := Lib.hid hg
      clear hown hiff hg HC HI hz0 hz1 hz2 c0 c1 c2 hq
      go_wp2
      go_ret2
      refine ⟨v', rfl, HG.out, ?_, ?_⟩
      · have k := HO.out
        simpa using k
      · intro e
        have k := HF.out
        rw [e] at k
        simpa using k
end Go.Proofs.Ytgknooblnpmloaa
