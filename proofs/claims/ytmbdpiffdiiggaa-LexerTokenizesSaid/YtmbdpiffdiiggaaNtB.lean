/- Reading numbers out of a text: the walks of the cursor's methods and of toEnd; no condition but sizes and the bytes' range. -/
import Derived.Test.YtmbdpiffdiiggaaNtA
import Derived.Deep.RegionHeld3
namespace Go.Proofs.Ytmbdpiffdiiggaa
open Go.RowKit
set_option linter.unusedVariables false

/-- The value of a digit, or 16. -/
def dv (c : Int) : Int := if 48 ≤ c ∧ c ≤ 57 then c - 48 else if 97 ≤ c ∧ c ≤ 102 then c - 87 else 16
theorem dv_range (c : Int) : 0 ≤ dv c ∧ dv c ≤ 16 := by unfold dv; (repeat' split) <;> omega
theorem dv_any (w : World) (c : Int) (h0 : 0 ≤ c) (h1 : c ≤ 255) : Calls Try.prog 100 #[.int .u8 c] w fun e w' => e = .returned (.int .u64 (dv c)) ∧ w = w' := by
  by_cases a1 : 48 ≤ c
  · by_cases a2 : c ≤ 57
    · have e1 : dv c = c - 48 := by unfold dv; rw [if_pos ⟨a1, a2⟩]
      go_enter Try.func100, Try.ntmps100
      go_wp2
      go_ret
      exact ⟨ret_i (by omega), rfl⟩
    · by_cases a3 : 97 ≤ c
      · by_cases a4 : c ≤ 102
        · have e1 : dv c = c - 87 := by unfold dv; rw [if_neg (by omega), if_pos ⟨a3, a4⟩]
          go_enter Try.func100, Try.ntmps100
          go_wp2
          go_ret
          exact ⟨ret_i (by omega), rfl⟩
        · have e1 : dv c = 16 := by unfold dv; rw [if_neg (by omega), if_neg (by omega)]
          go_enter Try.func100, Try.ntmps100
          go_wp2
          go_ret
          exact ⟨ret_i (by omega), rfl⟩
      · have e1 : dv c = 16 := by unfold dv; rw [if_neg (by omega), if_neg (by omega)]
        go_enter Try.func100, Try.ntmps100
        go_wp2
        go_ret
        exact ⟨ret_i (by omega), rfl⟩
  · have e1 : dv c = 16 := by unfold dv; rw [if_neg (by omega), if_neg (by omega)]
    go_enter Try.func100, Try.ntmps100
    go_wp2
    go_ret
    exact ⟨ret_i (by omega), rfl⟩
theorem hasDigit_any (w : World) (b c : Int) (h0 : 0 ≤ c) (h1 : c ≤ 255) : Calls Try.prog 98 #[.int .u64 b, .int .u8 c] w fun e w' => e = .returned (.bool (decide (dv c < b))) ∧ w = w' := by
  go_enter Try.func98, Try.ntmps98
  go_wp2_with fail
  refine (dv_any w c h0 h1).mono ?_
  rintro e w' ⟨rfl, rfl⟩
  go_wp2
  go_ret
  exact ⟨rfl, rfl⟩

/-- A cursor in memory: a block whose first two cells are the text and the offset. -/
structure Cur (w : World) (b : Nat) (t : TypeId) (cs : Array Value) (L : List Int) (o : Nat) : Prop where
  blk : IsB w b t cs
  txt : cs[0]? = some (.string (strOf L))
  off : cs[1]? = some (.int .i64 o)
  le : o ≤ L.length
theorem Cur.keep0 {w w2 : World} {b : Nat} {t : TypeId} {cs : Array Value} {L : List Int} {o : Nat} (h : Cur w b t cs L o) (k : w.grownBy w2 none) : Cur w2 b t cs L o := ⟨h.blk.keep0 k, h.txt, h.off, h.le⟩
theorem strOf_from (L : List Int) (o : Nat) : (strOf L).extract o L.length = strOf (L.drop o) := by
  rw [strOf_cut, List.take_of_length_le (by simp)]
theorem unread_any (w : World) (b : Nat) (t : TypeId) (cs : Array Value) (L : List Int) (o : Nat) (h : Cur w b t cs L o) (hl : L.length ≤ 1000000) :
    Calls Try.prog 96 #[.pointer (some ⟨b, 0, none⟩)] w (RetQ (.string (strOf (L.drop o))) w none fun _ => True) := by
  have c0 : w.cell? ⟨b, 0, none⟩ = some (.string (strOf L)) := (h.blk.cell 0).trans h.txt
  have c1 : w.cell? ⟨b, 1, none⟩ = some (.int .i64 o) := (h.blk.cell 1).trans h.off
  have hz := strOf_size L
  have ho := h.le
  have HX := Lib.hid (strOf_from L o)
  obtain ⟨s, hs⟩ : ∃ s, s = strOf L := ⟨_, rfl⟩
  rw [← hs] at c0 hz HX
  clear h hs
  have i0 : (0 : Int) ≤ (o : Int) := by omega
  have i1 : (o : Int) ≤ (s.size : Int) := by omega
  go_enter Try.func96, Try.ntmps96
  go_wp2
  go_quiet (fail)
  go_wp2
  go_ret
  refine ⟨?_, gb_drewN _ _ _, trivial⟩
  rw [← HX.out]
  rfl
theorem strOf_eq {L M : List Int} (h : L = M) : ((strOf L).toList == (strOf M).toList) = true := by rw [h, beq_iff_eq]
theorem strOf_ne {L M : List Int} (hl : ∀ x ∈ L, 0 ≤ x ∧ x ≤ 255) (hm : ∀ x ∈ M, 0 ≤ x ∧ x ≤ 255) (h : ¬ L = M) : ((strOf L).toList == (strOf M).toList) = false := by
  rw [beq_eq_false_iff_ne]
  intro e
  rw [ByteArray.toList_eq, ByteArray.toList_eq, strOf_data, strOf_data] at e
  exact h (byte_inj hl hm e)
/-- The call changes the cursor's offset alone. -/
def Moved (v : Value) (w : World) (b : Nat) (t : TypeId) (cs : Array Value) (L : List Int) (o : Nat) (e : Ending) (w' : World) : Prop :=
  e = .returned v ∧ w.grownBy w' (some b) ∧ Cur w' b t (cs.setIfInBounds 1 (.int .i64 o)) L o
theorem Cur.move {w : World} {b : Nat} {t : TypeId} {cs : Array Value} {L : List Int} {o : Nat} (h : Cur w b t cs L o) (o2 : Nat) (ho : o2 ≤ L.length) : Cur (w.setCell ⟨b, 1, none⟩ (.int .i64 o2)) b t (cs.setIfInBounds 1 (.int .i64 o2)) L o2 := by
  have h1 : 1 < cs.size := (Array.getElem?_eq_some_iff.1 h.off).1
  refine ⟨h.blk.set 1 _, ?_, ?_, ho⟩
  · rw [Array.getElem?_setIfInBounds_ne (by omega)]; exact h.txt
  · rw [Array.getElem?_setIfInBounds_self_of_lt h1]

set_option maxHeartbeats 1000000 in
theorem skip_yes (w : World) (b : Nat) (t : TypeId) (cs : Array Value) (L P : List Int) (o : Nat) (p : ByteArray) (h : Cur w b t cs L o) (hl : L.length ≤ 1000000) (hp : p = strOf P) (hm : P.length ≤ (L.drop o).length) (he : (L.drop o).take P.length = P) :
    Calls Try.prog 91 #[.pointer (some ⟨b, 0, none⟩), .string p] w (Moved (.bool true) w b t cs L (o + P.length)) := by
  have HU := Lib.hid (unread_any w b t cs L o h hl)
  have HC := Lib.hid h
  have HE := Lib.hid (show o + P.length ≤ L.length by have := h.le; simp at hm; omega)
  obtain ⟨T, hT⟩ : ∃ T, T = L.drop o := ⟨_, rfl⟩
  rw [← hT] at HU hm he
  have z1 := strOf_size T
  have z2 := strOf_size P
  rw [← hp] at z2
  have x1 := strOf_cut T 0 P.length
  rw [List.drop_zero, Nat.sub_zero, he, ← hp] at x1
  obtain ⟨r, hr⟩ : ∃ r, r = strOf T := ⟨_, rfl⟩
  rw [← hr] at HU z1 x1
  obtain ⟨m, hmm⟩ : ∃ m, m = P.length := ⟨_, rfl⟩
  rw [← hmm] at hm z2 x1 HE ⊢
  have hlT : T.length ≤ 1000000 := by rw [hT]; simp; omega
  have hle := h.le
  clear hT hr hp he h hmm
  have q1 : (p.toList == p.toList) = true := by rw [beq_iff_eq]
  have i1 : (m : Int) ≤ (T.length : Int) := by omega
  go_enter Try.func91, Try.ntmps91
  go_wp2_with fail
  refine HU.out.mono ?_
  rintro e w1 ⟨rfl, g1, _⟩
  have C1 := Lib.hid (HC.out.keep0 g1)
  have G1 := Lib.hid g1
  have c1 : w1.cell? ⟨b, 1, none⟩ = some (.int .i64 o) := (C1.out.blk.cell 1).trans C1.out.off
  have f1 := C1.out.blk.free 1
  clear g1 HU HC
  go_wp2
  go_ret
  have e1 : ((o : Int) + (m : Int)) = ((o + m : Nat) : Int) := by omega
  refine ⟨rfl, ?_, ?_⟩
  · exact gb_trans (gb_any G1.out) (gb_set _ _ _ _)
  · rw [e1]; exact C1.out.move (o + m) HE.out
theorem skip_no (w : World) (b : Nat) (t : TypeId) (cs : Array Value) (L P : List Int) (o : Nat) (p : ByteArray) (h : Cur w b t cs L o) (hl : L.length ≤ 1000000) (hL : ∀ x ∈ L, 0 ≤ x ∧ x ≤ 255) (hP : ∀ x ∈ P, 0 ≤ x ∧ x ≤ 255) (hp : p = strOf P)
    (hn : ¬ (P.length ≤ (L.drop o).length ∧ (L.drop o).take P.length = P)) :
    Calls Try.prog 91 #[.pointer (some ⟨b, 0, none⟩), .string p] w (RetQ (.bool false) w none fun _ => True) := by
  have HU := Lib.hid (unread_any w b t cs L o h hl)
  obtain ⟨T, hT⟩ : ∃ T, T = L.drop o := ⟨_, rfl⟩
  rw [← hT] at HU hn
  have z1 := strOf_size T
  have z2 := strOf_size P
  rw [← hp] at z2
  have x1 := strOf_cut T 0 P.length
  rw [List.drop_zero, Nat.sub_zero] at x1
  have hlT : T.length ≤ 1000000 := by rw [hT]; simp; omega
  have hTr : ∀ x ∈ T, 0 ≤ x ∧ x ≤ 255 := by rw [hT]; exact fun x hx => hL x (List.mem_of_mem_drop hx)
  by_cases hm : P.length ≤ T.length
  · have he : ¬ T.take P.length = P := fun e => hn ⟨hm, e⟩
    have q1 := strOf_ne (fun x hx => hTr x (List.mem_of_mem_take hx)) hP he
    rw [← hp] at q1
    have q2 : (!((strOf (T.take P.length)).toList == p.toList)) = true := by rw [q1]; rfl
    obtain ⟨q, hq⟩ : ∃ q, q = strOf (T.take P.length) := ⟨_, rfl⟩
    rw [← hq] at q1 q2 x1
    obtain ⟨r, hr⟩ : ∃ r, r = strOf T := ⟨_, rfl⟩
    rw [← hr] at HU z1 x1
    obtain ⟨m, hmm⟩ : ∃ m, m = P.length := ⟨_, rfl⟩
    rw [← hmm] at hm z2 x1
    have i1 : (m : Int) ≤ (T.length : Int) := by omega
    clear hT hr hp he h hmm hn hq hTr hL hP
    go_enter Try.func91, Try.ntmps91
    go_wp2_with fail
    refine HU.out.mono ?_
    rintro e w1 ⟨rfl, g1, _⟩
    have G1 := Lib.hid g1
    clear g1 HU
    go_wp2
    go_ret
    exact ⟨rfl, G1.out, trivial⟩
  · obtain ⟨r, hr⟩ : ∃ r, r = strOf T := ⟨_, rfl⟩
    rw [← hr] at HU z1 x1
    obtain ⟨m, hmm⟩ : ∃ m, m = P.length := ⟨_, rfl⟩
    rw [← hmm] at hm z2 x1
    have i1 : (T.length : Int) < (m : Int) := by omega
    clear hT hr hp h hmm hn hTr hL hP x1
    go_enter Try.func91, Try.ntmps91
    go_wp2_with fail
    refine HU.out.mono ?_
    rintro e w1 ⟨rfl, g1, _⟩
    have G1 := Lib.hid g1
    clear g1 HU
    go_wp2
    go_ret
    exact ⟨rfl, G1.out, trivial⟩

theorem strOf_at (L : List Int) (hL : ∀ x ∈ L, 0 ≤ x ∧ x ≤ 255) (i : Nat) (h : i < (strOf L).size) : ((((strOf L)[i]'h).toNat : Nat) : Int) = L.getD i 0 := by
  have hi : i < L.length := by rw [strOf_size] at h; exact h
  have e : (strOf L)[i]'h = (strOf L).data.toList[i]'(by rw [strOf_data]; simpa using hi) := rfl
  rw [e]
  have k := hL L[i] (List.getElem_mem hi)
  simp only [strOf_data, List.getElem_map]
  rw [UInt8.toNat_ofNat']
  simp [hi]
  omega
end Go.Proofs.Ytmbdpiffdiiggaa
