/- Records decoded: the walks of Unframe and its reference, of the reference's Internet checksum; strings of bytes; no condition but sizes and the bytes' range. -/
import Derived.Test.YtplhhjbmegaiiaaChC
import Derived.Deep.RegionHeld3
namespace Go.Proofs.Ytplhhjbmegaiiaa
open Go.RowKit
set_option linter.unusedVariables false

theorem push_data (b : ByteArray) (x : UInt8) : (b.push x).data = b.data.push x := rfl
theorem strOf_data (bs : List Int) : (strOf bs).data.toList = bs.map fun n => UInt8.ofNat n.toNat := by
  have k : ∀ (bs : List Int) (r : ByteArray), (bs.foldl (fun r n => r.push (UInt8.ofNat n.toNat)) r).data.toList = r.data.toList ++ bs.map fun n => UInt8.ofNat n.toNat := by
    intro bs
    induction bs with
    | nil => intro r; simp
    | cons b t ih =>
      intro r
      rw [List.foldl_cons, ih, push_data]
      simp
  have := k bs ByteArray.empty
  simpa [strOf] using this
theorem byte_inj {L M : List Int} (hl : ∀ x ∈ L, 0 ≤ x ∧ x ≤ 255) (hm : ∀ x ∈ M, 0 ≤ x ∧ x ≤ 255) (h : (L.map fun n => UInt8.ofNat n.toNat) = M.map fun n => UInt8.ofNat n.toNat) : L = M := by
  induction L generalizing M with
  | nil => cases M with
    | nil => rfl
    | cons b t => simp at h
  | cons a s ih => cases M with
    | nil => simp at h
    | cons b t =>
      simp only [List.map_cons, List.cons.injEq] at h
      have h1 := congrArg UInt8.toNat h.1
      have ha := hl a (by simp)
      have hb := hm b (by simp)
      simp only [UInt8.toNat_ofNat'] at h1
      have e1 : a = b := by omega
      rw [e1, ih (fun x hx => hl x (by simp [hx])) (fun x hx => hm x (by simp [hx])) h.2]
theorem strOf_inj {L M : List Int} (hl : ∀ x ∈ L, 0 ≤ x ∧ x ≤ 255) (hm : ∀ x ∈ M, 0 ≤ x ∧ x ≤ 255) (h : strOf L = strOf M) : L = M := by
  have k := congrArg (fun b : ByteArray => b.data.toList) h
  simp only [strOf_data] at k
  exact byte_inj hl hm k

set_option maxHeartbeats 1000000 in
theorem rinet_any (w : World) (a : Option Addr) (n c : Nat) (bs : List Int) (h : SlR w a n c (bs.map (Value.int .u8))) (hb : ∀ x ∈ bs, 0 ≤ x ∧ x ≤ 255) (hn : bs.length ≤ 1000000) :
    Calls Try.prog 33 #[.slice a n c] w (RetQ (.int .u16 (inet bs)) w none fun _ => True) := by
  have hl := h.len
  subst hl
  have HH := Lib.hid h
  have HB := Lib.hid hb
  clear h hb
  go_enter Try.func33, Try.ntmps33
  go_wp2
  go_loopw [3, 4] (fun v i wr => ∃ k : Nat, 2 * k ≤ bs.length + 1 ∧ v = .int .u64 (wsum bs (2 * k)) ∧ i = .int .i64 ((2 * k : Nat) : Int) ∧ w.grownBy wr none) (fun _ i _ => bs.length + 1 - (intOf i).toNat)
  case atStart => exact ⟨0, Nat.zero_le _, rfl, rfl, gb_refl _ _⟩
  case round =>
    obtain ⟨k, hk, rfl, rfl, hg⟩ := hrel
    have HG := Lib.hid hg
    clear hg
    have hw := wsum_range HB.out (2 * k)
    by_cases hlt : 2 * k < bs.length
    · cases a with
      | none => exact absurd (HH.out.2.1 rfl).1 (by omega)
      | some ad =>
        have c1 := (HH.out.keep0 HG.out).cellAt (2 * k) hlt
        have hx := getD_byte HB.out (2 * k)
        have hy := getD_byte HB.out (2 * k + 1)
        have HS := Lib.hid (show wsum bs (2 * (k + 1)) = wsum bs (2 * k) + 256 * bs.getD (2 * k) 0 + bs.getD (2 * k + 1) 0 by
          rw [show 2 * (k + 1) = 2 * k + 1 + 1 by omega]
          simp only [wsum]
          rw [if_pos (by omega), if_neg (by omega)])
        by_cases hl2 : 2 * k + 1 < bs.length
        · have c2 := (HH.out.keep0 HG.out).cellAt (2 * k + 1) hl2
          rw [Addr.add_succ'] at c2
          generalize bs.getD (2 * k) 0 = x at *
          generalize bs.getD (2 * k + 1) 0 = y at *
          generalize wsum bs (2 * k) = v at *
          have i1 : ((2 * k : Nat) : Int) < bs.length := by omega
          have i2 : ((2 * k : Nat) : Int) + 1 < bs.length := by omega
          generalize hj : 2 * k = j at *
          go_wp2
          go_roundw
          case rel => exact ⟨k + 1, by omega, by rw [HS.out], by rw [← hj]; go_num, HG.out⟩
          case measure => simp [intOf]; omega
        · have ey : bs.getD (2 * k + 1) 0 = 0 := by simp [hl2]
          rw [ey] at HS hy
          generalize bs.getD (2 * k) 0 = x at *
          generalize wsum bs (2 * k) = v at *
          have i1 : ((2 * k : Nat) : Int) < bs.length := by omega
          have i2 : ¬ ((2 * k : Nat) : Int) + 1 < bs.length := by omega
          generalize hj : 2 * k = j at *
          go_wp2
          go_roundw
          case rel => exact ⟨k + 1, by omega, by rw [HS.out, Int.add_zero], by rw [← hj]; go_num, HG.out⟩
          case measure => simp [intOf]; omega
    · have HE := Lib.hid (show wsum bs (2 * k) = wsum bs bs.length by
        rcases (show 2 * k = bs.length ∨ 2 * k = bs.length + 1 by omega) with e | e
        · rw [e]
        · rw [e]; simp [wsum])
      have i1 : ¬ ((2 * k : Nat) : Int) < bs.length := by omega
      have hw9 := wsum_range HB.out bs.length
      rw [HE.out]
      clear HE hw
      have HI := Lib.hid (show inet bs = 65535 - fold16 (wsum bs bs.length) from rfl)
      generalize wsum bs bs.length = v at *
      generalize hj : 2 * k = j at *
      go_wp2
      go_loopw [3] (fun v2 wr2 => ∃ s : Int, v2 = .int .u64 s ∧ fold16 s = fold16 v ∧ 0 ≤ s ∧ s ≤ 4294967296000 ∧ w.grownBy wr2 none) (fun v2 _ => (intOf v2).toNat)
      case atStart => exact ⟨v, rfl, rfl, hw9.1, by omega, HG.out⟩
      case round =>
        obtain ⟨s, rfl, he, k0, k1, hg2⟩ := hrel
        have HE := Lib.hid he
        have HG2 := Lib.hid hg2
        clear he hg2
        by_cases hs : 65535 < s
        · go_wp2
          go_roundw
          case rel => exact ⟨s / 65536 + s % 65536, by go_num, by rw [fold16_step2 s hs]; exact HE.out, by omega, by omega, HG2.out⟩
          case measure => simp [intOf]; omega
        · have e2 := HE.out
          rw [fold16_small s (by omega)] at e2
          have HE2 := Lib.hid e2
          clear e2
          go_wp2
          go_ret
          refine ⟨ret_i ?_, HG2.out, trivial⟩
          rw [HI.out, ← HE2.out]

theorem number_any (w : World) (a : Option Addr) (n c : Nat) (bs : List Int) (h : SlR w a n c (bs.map (Value.int .u8))) (hb : ∀ x ∈ bs, 0 ≤ x ∧ x ≤ 255) (hn : bs.length ≤ 1000000) (hq : 4 ≤ bs.length) :
    Calls Try.prog 46 #[.slice a n c] w (RetQ (.int .i64 (num4 bs 0)) w none fun _ => True) := by
  have hl := h.len
  subst hl
  cases a with
  | none => exact absurd (h.2.1 rfl).1 (by omega)
  | some ad =>
    have c0 := h.cellAt 0 (by omega)
    have c1 := h.cellAt 1 (by omega)
    have c2 := h.cellAt 2 (by omega)
    have c3 := h.cellAt 3 (by omega)
    simp [Addr.add] at c0 c1 c2 c3
    simp only [← List.getD_eq_getElem?_getD] at c0 c1 c2 c3
    have h0 := getD_byte hb 0
    have h1 := getD_byte hb 1
    have h2 := getD_byte hb 2
    have h3 := getD_byte hb 3
    have HN := Lib.hid (show num4 bs 0 = 16777216 * bs.getD 0 0 + 65536 * bs.getD 1 0 + 256 * bs.getD 2 0 + bs.getD 3 0 from rfl)
    generalize bs.getD 0 0 = x0 at *
    generalize bs.getD 1 0 = x1 at *
    generalize bs.getD 2 0 = x2 at *
    generalize bs.getD 3 0 = x3 at *
    have i0 : 0 < bs.length := by omega
    have i1 : 1 < bs.length := by omega
    have i2 : 2 < bs.length := by omega
    have i3 : 3 < bs.length := by omega
    clear hb h
    go_enter Try.func46, Try.ntmps46
    go_wp2
    go_quiet (fail)
    go_wp2
    go_ret
    exact ⟨ret_i (by rw [HN.out]), gb_drewN _ _ _, trivial⟩

theorem join_any (w : World) (a a2 : Option Addr) (n n2 c c2 : Nat) (bs ts : List Int) (h : SlR w a n c (bs.map (Value.int .u8))) (h2 : SlR w a2 n2 c2 (ts.map (Value.int .u8))) (hn : bs.length ≤ 100000) (hn2 : ts.length ≤ 100000) :
    Calls Try.prog 36 #[.slice a n c, .slice a2 n2 c2] w (RetB w.heap.size (bs ++ ts) w) := by
  have hl := h.len
  have hl2 := h2.len
  subst hl
  subst hl2
  have HH := Lib.hid h
  have HH2 := Lib.hid h2
  clear h h2
  go_enter Try.func36, Try.ntmps36
  go_wp2_with (at_builtin; refine push_any rfl _ _ rfl w.heap.size _ [] rfl (BL.nil _ _) _ _ _ bs rfl HH.out (by simp; omega) (Nat.le_refl _) ?_)
  intro V1 w1 o1 g1 _
  have G1 := Lib.hid (gb_own (gb_refl w none) (BL.nil w w.heap.size) (Nat.le_refl _) g1)
  have O1 := Lib.hid o1
  clear o1 g1
  go_wp2_with (at_builtin; refine push_any rfl _ _ rfl w.heap.size _ _ rfl O1.out _ _ _ ts rfl (HH2.out.keep0 G1.out) (by omega) G1.out.size ?_)
  intro V2 w2 o2 g2 _
  have G2 := Lib.hid (gb_own G1.out O1.out (Nat.le_refl _) g2)
  have O2 := Lib.hid o2
  clear o2 g2
  go_wp2
  go_ret
  exact ⟨_, rfl, by simpa using O2.out, G2.out⟩
end Go.Proofs.Ytplhhjbmegaiiaa
