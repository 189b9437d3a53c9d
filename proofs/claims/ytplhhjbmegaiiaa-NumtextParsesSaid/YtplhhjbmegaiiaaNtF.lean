/- Bytes as hexadecimal text: the walks of EncodeHex, nextByte and DecodeHex; no condition but sizes and the bytes' range. -/
import Derived.Test.YtplhhjbmegaiiaaNtE
namespace Go.Proofs.Ytplhhjbmegaiiaa
open Go.RowKit
set_option linter.unusedVariables false

def encL (bs : List Int) : List Int := bs.flatMap fun x => [hexd (x / 16), hexd (x % 16)]
theorem encL_snoc (bs : List Int) (x : Int) : encL (bs ++ [x]) = encL bs ++ [hexd (x / 16), hexd (x % 16)] := by simp [encL]
theorem encL_len (bs : List Int) : (encL bs).length = 2 * bs.length := by
  induction bs with
  | nil => rfl
  | cons x t ih =>
    have e : encL (x :: t) = hexd (x / 16) :: hexd (x % 16) :: encL t := rfl
    rw [e, List.length_cons, List.length_cons, ih, List.length_cons]
    omega
theorem and15 (x : Int) (h0 : 0 ≤ x) (h1 : x ≤ 255) : bits .and .u8 x 15 = x % 16 := by
  have := bits_mask .u8 8 (by decide) wraps_u8 4 (by decide) x h0 (by simp; omega)
  simpa using this

/-- An append onto bytes of the call's own, as a step of a region. -/
theorem step_push {ops : Array Oper} {o : Oper} {a : Act} {w : World} {K : Act → World → Prop} {Q : Exit → Act → World → Prop} {E : Prop} (hgd : o.guard = none) (s x : Operand)
    (ho : o.op = .call { callee := .builtin .append, args := #[s, x], argTypes := #[31, 31] }) (base : Nat) (V : Value) (L : List Int) (hs : a.eval s = V) (hown : BL w base V L)
    (ad : Addr) (m c : Nat) (M : List Int) (hx : a.eval x = .slice (some ad) m c) (hM : SlR w (some ad) m c (M.map (Value.int .u8))) (hlen : L.length + M.length ≤ 1000000) (hbase : base ≤ w.heap.size)
    (h : ∀ V' w', BL w' base V' (L ++ M) → w.grownBy w' V.ownBlock → K (a.put o.dst V') w') : if Region.wanted o (yielded ops a.tmps) = true then Oper.wp Try.prog o a w K Q else E := by
  have hw : Region.wanted o (yielded ops a.tmps) = true := by simp [Region.wanted, hgd]
  rw [if_pos hw]
  obtain ⟨i0, hi, hz0, hz1, hz2⟩ := info_parts infoU8
  have hl : M.length = m := by simpa using hM.1
  subst hl
  refine wp_append_own w s x 31 ho base 5 i0 (.int .u8 0) 1 1 Try.underlying31 hi hz0 hz1 hz2 rfl (by decide) V L.length (L.map (Value.int .u8)) hs hown ad M.length c (M.map (Value.int .u8)) hx (by simp) (hM.2.2 ad rfl) (ints_one _ _) (by unfold maxLen; omega) (by omega) hbase ?_
  intro V' w' h1 h2 h3
  exact h V' w' (by simpa [BL] using h1) h2

set_option maxRecDepth 100000 in
set_option maxHeartbeats 1000000 in
theorem encode_any (w : World) (a : Option Addr) (n c : Nat) (bs : List Int) (h : SlR w a n c (bs.map (Value.int .u8))) (hb : ∀ x ∈ bs, 0 ≤ x ∧ x ≤ 255) (hn : bs.length ≤ 100000) :
    Calls Try.prog 26 #[.slice a n c] w (RetQ (.string (strOf (encL bs))) w none fun _ => True) := by
  have hl := h.len
  subst hl
  have HH := Lib.hid h
  have HB := Lib.hid hb
  clear h hb
  obtain ⟨i0, hi, hz0, hz1, hz2⟩ := info_parts infoU8
  go_enter Try.func26, Try.ntmps26
  go_wp2_with (at_make; refine wpList_make_own _ rfl _ _ 31 rfl w.heap.size 5 i0 (.int .u8 0) 1 Try.underlying31 hi hz0 hz1 .i64 .i64 (2 * bs.length) (2 * bs.length) rfl rfl (by omega) (by rw [hz2]; omega) (by unfold maxLen; omega) (Nat.le_refl _) ?_; intro w1 hown hgrow)
  have O1 := Lib.hid (show BL w1 w.heap.size (.slice (some ⟨w.heap.size, 0, none⟩) 0 (2 * bs.length)) [] from hown)
  have G1 := Lib.hid hgrow
  clear hown hgrow hi hz0 hz1 hz2
  generalize (Value.slice (some ⟨w.heap.size, 0, none⟩) 0 (2 * bs.length)) = V0 at *
  go_loopw [3, 12] (fun v i wr => ∃ k : Nat, k ≤ bs.length ∧ i = .int .i64 k ∧ BL wr w.heap.size v (encL (bs.take k)) ∧ w.grownBy wr none) (fun _ i _ => bs.length - (intOf i).toNat)
  case atStart => exact ⟨0, Nat.zero_le _, rfl, O1.out, G1.out⟩
  case round =>
    obtain ⟨k, hk, rfl, ho, hg⟩ := hrel
    have HO := Lib.hid ho
    have HG := Lib.hid hg
    clear ho hg O1 G1
    by_cases hlt : k < bs.length
    · cases a with
      | none => exact absurd (HH.out.2.1 rfl).1 (by omega)
      | some ad =>
        have c1 := (HH.out.keep0 HG.out).cellAt k hlt
        have hi : (k : Int) < bs.length := by omega
        have hx := getD_byte HB.out k
        have HS := Lib.hid (show encL (bs.take (k + 1)) = encL (bs.take k) ++ [hexd (bs.getD k 0 / 16), hexd (bs.getD k 0 % 16)] by rw [take_snoc bs k hlt, encL_snoc])
        have HL := Lib.hid (show (encL (bs.take k)).length ≤ 200000 by rw [encL_len]; simp; omega)
        obtain ⟨x, hxx⟩ : ∃ x, x = bs.getD k 0 := ⟨_, rfl⟩
        rw [← hxx] at c1 hx HS
        obtain ⟨R, hR⟩ : ∃ R, R = encL (bs.take k) := ⟨_, rfl⟩
        rw [← hR] at HO HS HL
        clear hxx hR
        have ha := and15 x hx.1 hx.2
        have b1 : (0 : Int) ≤ x / 16 := by omega
        have b2 : x / 16 < 16 := by omega
        have b3 : (0 : Int) ≤ x % 16 := by omega
        have b4 : x % 16 < 16 := by omega
        have hb0 := HG.out
        have OA := Lib.hid (fun (cs : Array Value) (t : TypeId) => HO.out.keep0 (gb_trans (gb_drew wr none) (gb_alloc wr.drew (.cells cs t) none)))
        have SZ := Lib.hid HG.out.size
        go_wp2_with fail
        go_region_held3 (fun w' => w.grownBy w' none) (first | assumption | exact gb_trans HG.out (gb_drew _ _) | exact gb_trans HG.out (gb_trans (gb_drew _ _) (gb_alloc _ _ _)) | exact hb0)
          (first | (refine step_push rfl _ _ rfl w.heap.size _ R rfl (OA.out _ _) _ _ _ [_, _] rfl (slr_two _ _ _ _ _ _ rfl) (by have := HL.out; simp; omega) (by have := SZ.out; simp; omega) ?_; intro V2 w2 o2 g2; have G2 := gb_own (gb_trans HG.out (gb_trans (gb_drew wr none) (gb_alloc _ _ _))) (OA.out _ _) (Nat.le_refl _) g2))
        all_goals
          rename_i hs
          have G3 := Lib.hid hs
          clear hs hb0 g2 OA
          rw [D16_get, D16_get] at o2
          rw [show (((x / 16).toNat : Nat) : Int) = x / 16 by omega, show (((x % 16).toNat : Nat) : Int) = x % 16 by omega] at o2
          have O2 := Lib.hid o2
          clear o2
          go_wp2
          go_roundw
          case rel => exact ⟨k + 1, by omega, by go_num, by rw [HS.out]; exact O2.out, G3.out⟩
          case measure => simp [intOf]; omega
    · have hke : k = bs.length := by omega
      subst hke
      rw [List.take_length] at HO
      rename_i v _
      obtain ⟨R, hR⟩ : ∃ R, R = encL bs := ⟨_, rfl⟩
      rw [← hR] at HO
      have HR := Lib.hid hR
      clear hR
      obtain ⟨a1, c1, rfl⟩ := HO.out.shape
      have cv := conv_str wr a1 _ c1 R HO.out.slr
      clear HO
      go_wp2
      go_ret
      refine ⟨?_, HG.out, trivial⟩
      rw [← HR.out]
      rfl
end Go.Proofs.Ytplhhjbmegaiiaa
