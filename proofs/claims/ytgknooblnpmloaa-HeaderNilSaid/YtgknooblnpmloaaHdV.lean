/- Header: Read and Write without a reader or writer; the walk of HeaderNil; no condition but that the arguments can be read. -/
import Derived.Test.YtgknooblnpmloaaHdW
namespace Go.Proofs.Ytgknooblnpmloaa
open Go.RowKit
set_option linter.unusedVariables false

def nilE (q : Int) : Int := if q = 0 then 1 else q
set_option maxRecDepth 100000 in
set_option maxHeartbeats 4000000 in
theorem readN_any (w : World) (hs : ByteArray) (a : Option Addr) (n c : Nat) (L : List Fld) (h : HdOk w hs a n c L) (p : Option Addr)
    (hP : ∀ w', w.grownBy w' none → Calls Try.prog 18 #[.pointer p, .int .i64 0] w' (RetQ (.tuple #[.int .u32 0, .int .i64 1]) w' none fun _ => True)) :
    Calls Try.prog 20 #[.agg #[.string hs, .slice a n c], .pointer p] w (RetG (.tuple #[.slice none 0 0, .int .i64 (nilE (chkH hs L))]) w) := by
  have HP := Lib.hid hP
  have A0 := Lib.hid (gb_alloc w (.cells #[.string hs, .slice a n c] 24) none)
  have HC := Lib.hid (check_any (w.alloc (.cells #[.string hs, .slice a n c] 24)) hs a n c L (h.sf.keep0 A0.out) h.few h.nm h.hn)
  clear hP h
  obtain ⟨q, hq⟩ : ∃ q, q = chkH hs L := ⟨_, rfl⟩
  rw [← hq] at HC ⊢
  clear hq
  by_cases q0 : q = 0
  · subst q0
    go_enter Try.func20, Try.ntmps20
    go_wp2_with fail
    refine HC.out.mono ?_
    rintro e w2 ⟨rfl, g2⟩
    have G2 := Lib.hid (gb_trans A0.out g2)
    have RB := Lib.hid (HP.out w2 G2.out)
    clear g2 HC
    go_wp2_with fail
    refine RB.out.mono ?_
    rintro e w3 ⟨rfl, g3, _⟩
    have G3 := Lib.hid (gb_trans G2.out g3)
    clear g3
    go_wp2
    go_ret2
    exact ⟨rfl, G3.out⟩
  · have d1 : (q == 0) = false := by simp [q0]
    have d2 : (q != 0) = true := by simp [q0]
    have E := Lib.hid (show nilE q = q from if_neg q0)
    clear q0
    go_enter Try.func20, Try.ntmps20
    go_wp2_with fail
    refine HC.out.mono ?_
    rintro e w2 ⟨rfl, g2⟩
    have G2 := Lib.hid (gb_trans A0.out g2)
    clear g2 HC
    go_wp2
    go_ret2
    exact ⟨by rw [E.out] <;> rfl, G2.out⟩
set_option maxRecDepth 100000 in
set_option maxHeartbeats 4000000 in
theorem writeN_any (w : World) (hs : ByteArray) (a : Option Addr) (n c : Nat) (L : List Fld) (h : HdOk w hs a n c L) (p : Option Addr) (V : Value)
    (hP : ∀ w', w.grownBy w' none → Calls Try.prog 27 #[.pointer p, .int .u32 0, .int .i64 0] w' (RetQ (.int .i64 1) w' none fun _ => True)) :
    Calls Try.prog 29 #[.agg #[.string hs, .slice a n c], V, .pointer p] w (RetG (.int .i64 (nilE (chkH hs L))) w) := by
  have HP := Lib.hid hP
  have A0 := Lib.hid (gb_alloc w (.cells #[.string hs, .slice a n c] 24) none)
  have HC := Lib.hid (check_any (w.alloc (.cells #[.string hs, .slice a n c] 24)) hs a n c L (h.sf.keep0 A0.out) h.few h.nm h.hn)
  clear hP h
  obtain ⟨q, hq⟩ : ∃ q, q = chkH hs L := ⟨_, rfl⟩
  rw [← hq] at HC ⊢
  clear hq
  by_cases q0 : q = 0
  · subst q0
    go_enter Try.func29, Try.ntmps29
    go_wp2_with fail
    refine HC.out.mono ?_
    rintro e w2 ⟨rfl, g2⟩
    have G2 := Lib.hid (gb_trans A0.out g2)
    have RB := Lib.hid (HP.out w2 G2.out)
    clear g2 HC
    go_wp2_with fail
    refine RB.out.mono ?_
    rintro e w3 ⟨rfl, g3, _⟩
    have G3 := Lib.hid (gb_trans G2.out g3)
    clear g3
    go_wp2
    go_ret
    exact ⟨rfl, G3.out⟩
  · have d1 : (q == 0) = false := by simp [q0]
    have d2 : (q != 0) = true := by simp [q0]
    have E := Lib.hid (show nilE q = q from if_neg q0)
    clear q0
    go_enter Try.func29, Try.ntmps29
    go_wp2_with fail
    refine HC.out.mono ?_
    rintro e w2 ⟨rfl, g2⟩
    have G2 := Lib.hid (gb_trans A0.out g2)
    clear g2 HC
    go_wp2
    go_ret
    exact ⟨by rw [E.out] <;> rfl, G2.out⟩
set_option maxRecDepth 100000 in
set_option maxHeartbeats 8000000 in
theorem nil_on (s0 : ByteArray) (a : Option Addr) (n c : Nat) (L : List Fld) (a2 : Option Addr) (len2 cap2 : Nat) (W : World) (h : SF W a n c L) (hsm : smallH s0 L = true) (hlen : len2 ≤ 30) :
    Calls Try.prog 7 #[.agg #[.string s0, .slice a n c], .slice a2 len2 cap2] W (HoldsT W) := by
  have OK := Lib.hid (hd_small h hsm)
  have BX := Lib.hid (IsB.new W 24 #[.string s0, .slice a n c])
  have G0 := Lib.hid (gb_alloc W (.cells #[.string s0, .slice a n c] 24) none)
  have SM := Lib.hid (small_any _ s0 a n c L (h.keep0 G0.out))
  rw [hsm] at SM
  have WK := Lib.hid (fun w => works_any w)
  have i1 : ¬ (30 : Int) < len2 := by omega
  have CR := Lib.hid (fun (w' : World) (g : W.grownBy w' none) => rcheck_any w' s0 a n c L (OK.out.sf.keep0 g) OK.out.few OK.out.nm OK.out.hn)
  have RN := Lib.hid (fun (w' : World) (g : W.grownBy w' none) => readN_any w' s0 a n c L (OK.out.keep0 g) none (fun w2 _ => reads_nil w2 0))
  have RR := Lib.hid (fun (w' : World) (g : W.grownBy w' none) (r : Nat) (hr : IsB w' r 74 #[.pointer none]) => readN_any w' s0 a n c L (OK.out.keep0 g) (some ⟨r, 0, none⟩) (fun w2 g2 => reads_raw w2 r 0 (hr.keep0 g2)))
  have WN := Lib.hid (fun (w' : World) (g : W.grownBy w' none) => writeN_any w' s0 a n c L (OK.out.keep0 g) none (.slice a2 len2 cap2) (fun w2 _ => wr_nil w2 0 0))
  have WR := Lib.hid (fun (w' : World) (g : W.grownBy w' none) (r : Nat) (hr : IsB w' r 77 #[.pointer none]) => writeN_any w' s0 a n c L (OK.out.keep0 g) (some ⟨r, 0, none⟩) (.slice a2 len2 cap2) (fun w2 g2 => wr_raw w2 r 0 0 (hr.keep0 g2)))
  clear h hsm hlen
  obtain ⟨q, hq⟩ : ∃ q, q = chkH s0 L := ⟨_, rfl⟩
  rw [← hq] at CR RN RR WN WR
  clear hq
  obtain ⟨z, hz⟩ : ∃ z, z = nilE q := ⟨_, rfl⟩
  rw [← hz] at RN RR WN WR
  have HZ := Lib.hid hz
  have e1 : (z == z) = true := by simp
  clear hz
  go_enter Try.func7, Try.ntmps7
  go_wp2_with fail
  refine SM.out.mono ?_
  rintro e w2 ⟨rfl, g2⟩
  have G2 := Lib.hid (gb_trans G0.out g2)
  have BX2 := Lib.hid (BX.out.keep0 g2)
  have b0 := BX2.out.cell 0
  have b1 := BX2.out.cell 1
  simp at b0 b1
  have C0 := Lib.hid (CR.out w2 G2.out)
  clear g2 SM CR
  go_wp2_with fail
  refine C0.out.mono ?_
  rintro e w3 ⟨rfl, g3⟩
  have G3 := Lib.hid (gb_trans G2.out g3)
  have BX3 := Lib.hid (BX2.out.keep0 g3)
  clear b0 b1 g3 BX2 C0
  have b0 := BX3.out.cell 0
  have b1 := BX3.out.cell 1
  simp at b0 b1
  have R0 := Lib.hid (RN.out w3 G3.out)
  rcases Decidable.em (q = 0) with q0 | q0
  · have hz1 : z = 1 := by rw [HZ.out, q0]; rfl
    subst hz1
    have d1 : (q == 0) = true := by simp [q0]
    clear q0
    go_wp2_with fail
    refine R0.out.mono ?_
    rintro e w4 ⟨rfl, g4⟩
    have G4 := Lib.hid (gb_trans G3.out g4)
    have BX4 := Lib.hid (BX3.out.keep0 g4)
    clear b0 b1 g4 BX3 R0 RN
    have b0 := BX4.out.cell 0
    have b1 := BX4.out.cell 1
    simp at b0 b1
    have R1 := Lib.hid (RR.out (w4.alloc (.cells #[.pointer none] 74)) (gb_trans G4.out (gb_alloc _ _ _)) w4.heap.size (IsB.new _ _ _))
    go_wp2_with fail
    refine R1.out.mono ?_
    rintro e w5 ⟨rfl, g5⟩
    have G5 := Lib.hid (gb_trans G4.out (gb_trans (gb_alloc _ _ none) g5))
    have BX5 := Lib.hid (BX4.out.keep0 (gb_trans (gb_alloc _ _ none) g5))
    clear b0 b1 g5 BX4 R1 RR
    have b0 := BX5.out.cell 0
    have b1 := BX5.out.cell 1
    simp at b0 b1
    have W0 := Lib.hid (WN.out w5 G5.out)
    go_wp2_with fail
    refine W0.out.mono ?_
    rintro e w6 ⟨rfl, g6⟩
    have G6 := Lib.hid (gb_trans G5.out g6)
    have BX6 := Lib.hid (BX5.out.keep0 g6)
    clear b0 b1 g6 BX5 W0 WN
    have b0 := BX6.out.cell 0
    have b1 := BX6.out.cell 1
    simp at b0 b1
    have W1 := Lib.hid (WR.out (w6.alloc (.cells #[.pointer none] 77)) (gb_trans G6.out (gb_alloc _ _ _)) w6.heap.size (IsB.new _ _ _))
    go_wp2_with fail
    refine W1.out.mono ?_
    rintro e w7 ⟨rfl, g7⟩
    have G7 := Lib.hid (gb_trans G6.out (gb_trans (gb_alloc _ _ none) g7))
    clear b0 b1 g7 W1 WR
    go_wp2_with fail
    refine (WK.out _).mono ?_
    rintro e w8 ⟨rfl, g8⟩
    have G8 := Lib.hid (gb_trans G7.out g8)
    clear g8
    go_wp2
    go_ret
    exact ⟨rfl, below_gb G8.out⟩
  · have hz1 : z = q := by rw [HZ.out]; exact if_neg q0
    subst hz1
    have d1 : (z == 0) = false := by simp [q0]
    clear q0
    go_wp2_with fail
    refine R0.out.mono ?_
    rintro e w4 ⟨rfl, g4⟩
    have G4 := Lib.hid (gb_trans G3.out g4)
    have BX4 := Lib.hid (BX3.out.keep0 g4)
    clear b0 b1 g4 BX3 R0 RN
    have b0 := BX4.out.cell 0
    have b1 := BX4.out.cell 1
    simp at b0 b1
    have R1 := Lib.hid (RR.out (w4.alloc (.cells #[.pointer none] 74)) (gb_trans G4.out (gb_alloc _ _ _)) w4.heap.size (IsB.new _ _ _))
    go_wp2_with fail
    refine R1.out.mono ?_
    rintro e w5 ⟨rfl, g5⟩
    have G5 := Lib.hid (gb_trans G4.out (gb_trans (gb_alloc _ _ none) g5))
    have BX5 := Lib.hid (BX4.out.keep0 (gb_trans (gb_alloc _ _ none) g5))
    clear b0 b1 g5 BX4 R1 RR
    have b0 := BX5.out.cell 0
    have b1 := BX5.out.cell 1
    simp at b0 b1
    have W0 := Lib.hid (WN.out w5 G5.out)
    go_wp2_with fail
    refine W0.out.mono ?_
    rintro e w6 ⟨rfl, g6⟩
    have G6 := Lib.hid (gb_trans G5.out g6)
    have BX6 := Lib.hid (BX5.out.keep0 g6)
    clear b0 b1 g6 BX5 W0 WN
    have b0 := BX6.out.cell 0
    have b1 := BX6.out.cell 1
    simp at b0 b1
    have W1 := Lib.hid (WR.out (w6.alloc (.cells #[.pointer none] 77)) (gb_trans G6.out (gb_alloc _ _ _)) w6.heap.size (IsB.new _ _ _))
    go_wp2_with fail
    refine W1.out.mono ?_
    rintro e w7 ⟨rfl, g7⟩
    have G7 := Lib.hid (gb_trans G6.out (gb_trans (gb_alloc _ _ none) g7))
    clear b0 b1 g7 W1 WR
    go_wp2_with fail
    refine (WK.out _).mono ?_
    rintro e w8 ⟨rfl, g8⟩
    have G8 := Lib.hid (gb_trans G7.out g8)
    clear g8
    go_wp2
    go_ret
    exact ⟨rfl, below_gb G8.out⟩
set_option maxRecDepth 100000 in
set_option maxHeartbeats 4000000 in
theorem nil_walk (s0 : ByteArray) (a : Option Addr) (n c : Nat) (L : List Fld) (a2 : Option Addr) (len2 cap2 : Nat) (z : List Int) (W : World) (h : SF W a n c L) (h2 : IsRow .u32 W a2 len2 cap2 z) :
    Calls Try.prog 7 #[.agg #[.string s0, .slice a n c], .slice a2 len2 cap2] W (HoldsT W) := by
  have G0 := Lib.hid (gb_alloc W (.cells #[.string s0, .slice a n c] 24) none)
  have SM := Lib.hid (small_any _ s0 a n c L (h.keep0 G0.out))
  have WK := Lib.hid (fun w => works_any w)
  cases hsm : smallH s0 L
  · rw [hsm] at SM
    clear hsm
    go_enter Try.func7, Try.ntmps7
    go_wp2_with fail
    refine SM.out.mono ?_
    rintro e w2 ⟨rfl, g2⟩
    have G2 := Lib.hid (gb_trans G0.out g2)
    clear g2 SM
    go_wp2_with fail
    refine (WK.out _).mono ?_
    rintro e w3 ⟨rfl, g3⟩
    have G3 := Lib.hid (gb_trans G2.out g3)
    clear g3
    go_wp2
    go_ret
    exact ⟨rfl, below_gb G3.out⟩
  · by_cases hlen : len2 ≤ 30
    · exact nil_on s0 a n c L a2 len2 cap2 W h hsm hlen
    · rw [hsm] at SM
      have i1 : (30 : Int) < len2 := by omega
      clear hsm hlen
      go_enter Try.func7, Try.ntmps7
      go_wp2_with fail
      refine SM.out.mono ?_
      rintro e w2 ⟨rfl, g2⟩
      have G2 := Lib.hid (gb_trans G0.out g2)
      clear g2 SM
      go_wp2_with fail
      refine (WK.out _).mono ?_
      rintro e w3 ⟨rfl, g3⟩
      have G3 := Lib.hid (gb_trans G2.out g3)
      clear g3
      go_wp2
      go_ret
      exact ⟨rfl, below_gb G3.out⟩
end Go.Proofs.Ytgknooblnpmloaa
