/- The Internet checksum's walks; numbers of four bytes; appending bytes; no condition but sizes and the bytes' range. -/
import Derived.Test.YtplhhjbmegaiiaaChA
namespace Go.Proofs.Ytplhhjbmegaiiaa
open Go.RowKit
set_option linter.unusedVariables false

/-- A slice of bytes that the call owns. -/
def BL (w : World) (base : Nat) (V : Value) (L : List Int) : Prop := w.ownsRow base 5 1 V L.length (L.map (Value.int .u8))
theorem BL.nil (w : World) (base : Nat) : BL w base (.slice none 0 0) [] := World.ownsRow_nil _ _ _ _
theorem BL.keep0 {w w2 : World} {base : Nat} {V : Value} {L : List Int} (h : BL w base V L) (k : w.grownBy w2 none) : BL w2 base V L := own_keep0 h k
theorem BL.shape {w : World} {base : Nat} {V : Value} {L : List Int} (h : BL w base V L) : ∃ a c, V = .slice a L.length c := own_shape h
theorem BL.slr {w : World} {base c : Nat} {a : Option Addr} {L : List Int} (h : BL w base (.slice a L.length c) L) : SlR w a L.length c (L.map (Value.int .u8)) := own_slr h
theorem BL.cap {w : World} {base c : Nat} {a : Option Addr} {L : List Int} (h : BL w base (.slice a L.length c) L) : L.length ≤ c := own_cap h
theorem push_any {w : World} {ops : Array Oper} {rest : List Oper} {o : Oper} {a : Act} {Q : Exit → Act → World → Prop} (hgd : o.guard = none) (s x : Operand)
    (ho : o.op = .call { callee := .builtin .append, args := #[s, x], argTypes := #[31, 31] }) (base : Nat) (V : Value) (L : List Int) (hs : a.eval s = V) (hown : BL w base V L)
    (ad : Option Addr) (m c : Nat) (M : List Int) (hx : a.eval x = .slice ad m c) (hM : SlR w ad m c (M.map (Value.int .u8))) (hlen : L.length + M.length ≤ 1000000) (hbase : base ≤ w.heap.size)
    (h : ∀ V' w', BL w' base V' (L ++ M) → w.grownBy w' V.ownBlock → (V' = .slice none 0 0 ↔ V = .slice none 0 0 ∧ M = []) → wpList Try.prog ops Q rest (a.put o.dst V') w') : wpList Try.prog ops Q (o :: rest) a w := by
  obtain ⟨i0, hi, hz0, hz1, hz2⟩ := info_parts infoU8
  have hl : M.length = m := by simpa using hM.1
  subst hl
  cases ad with
  | none =>
    obtain ⟨h0, rfl⟩ := hM.2.1 rfl
    have hm : M = [] := List.length_eq_zero_iff.1 h0
    subst hm
    refine wpList_append_own_none hgd s x 31 ho base 5 i0 1 Try.underlying31 hi V L.length (L.map (Value.int .u8)) hs hown hx ?_
    refine h V w (by simpa [BL] using hown) ?_ (by simp)
    cases V.ownBlock <;> exact gb_refl _ _
  | some ad =>
    refine wpList_append_own w hgd s x 31 ho base 5 i0 (.int .u8 0) 1 1 Try.underlying31 hi hz0 hz1 hz2 rfl (by decide) V L.length (L.map (Value.int .u8)) hs hown ad M.length c (M.map (Value.int .u8)) hx (by simp) (hM.2.2 ad rfl) (ints_one _ _) (by unfold maxLen; omega) (by omega) hbase ?_
    intro V' w' h1 h2 h3
    refine h V' w' (by simpa [BL] using h1) h2 (h3.trans ?_)
    rw [List.length_eq_zero_iff]
theorem slr_one (w : World) (k : IntKind) (x : Int) (t : TypeId) (g : Nat) (hg : g = w.heap.size) : SlR (w.alloc (.cells #[.int k x] t)) (some ⟨g, 0, none⟩) 1 1 ([x].map (Value.int k)) := by
  subst hg; exact slr_new w k [x] t
/-- What the growth of a call's own row is, to what was there before. -/
theorem gb_own {w w2 : World} {base : Nat} {e : TypeId} {size n : Nat} {v : Value} {xs : List Value} {w0 : World} (h0 : w0.grownBy w none) (hown : w.ownsRow base e size v n xs) (hb : w0.heap.size ≤ base) (k : w.grownBy w2 v.ownBlock) : w0.grownBy w2 none := by
  refine ⟨k.os.trans h0.os, k.tape.trans h0.tape, k.output.trans h0.output, Nat.le_trans h0.size k.size, fun i hi hn => ?_⟩
  refine (k.block i (Nat.lt_of_lt_of_le hi h0.size) ?_).trans (h0.block i hi (by simp))
  intro e1
  have := hown.lt i e1.symm
  omega

def fold16 (s : Int) : Int := if s ≤ 65535 then s else (s - 1) % 65535 + 1
theorem fold16_range (s : Int) (h : 0 ≤ s) : 0 ≤ fold16 s ∧ fold16 s ≤ 65535 := by unfold fold16; split <;> omega
theorem fold16_step (s : Int) (h : 65535 < s) : fold16 (s % 65536 + s / 65536) = fold16 s := by unfold fold16; split <;> split <;> omega
theorem fold16_step2 (s : Int) (h : 65535 < s) : fold16 (s / 65536 + s % 65536) = fold16 s := by rw [Int.add_comm]; exact fold16_step s h
theorem fold16_add (a v : Int) (h : 0 ≤ a) (hv : 0 ≤ v) : fold16 (fold16 a + v) = fold16 (a + v) := by unfold fold16; (repeat' split) <;> omega
theorem fold16_small (a : Int) (h : a ≤ 65535) : fold16 a = a := by unfold fold16; rw [if_pos h]

/-- The sum of the first k bytes, as halves of words. -/
def wsum (bs : List Int) : Nat → Int
  | 0 => 0
  | k + 1 => wsum bs k + if k % 2 = 0 then 256 * bs.getD k 0 else bs.getD k 0
theorem wsum_range {bs : List Int} (hb : ∀ x ∈ bs, 0 ≤ x ∧ x ≤ 255) (k : Nat) : 0 ≤ wsum bs k ∧ wsum bs k ≤ 65280 * k := by
  induction k with
  | zero => exact ⟨Int.le_refl _, by simp [wsum]⟩
  | succ k ih =>
    have := getD_byte hb k
    unfold wsum
    split <;> omega
def inet (bs : List Int) : Int := 65535 - fold16 (wsum bs bs.length)
theorem inet_range {bs : List Int} (hb : ∀ x ∈ bs, 0 ≤ x ∧ x ≤ 255) : 0 ≤ inet bs ∧ inet bs ≤ 65535 := by
  have := fold16_range _ (wsum_range hb bs.length).1
  unfold inet; omega

theorem add_any (w : World) (g : Nat) (t : TypeId) (h v : Int) (x : Value) (hb : IsB w g t #[.int .u32 h, x]) :
    Calls Try.prog 56 #[.pointer (some ⟨g, 0, none⟩), .int .u32 v] w (Turn w g t #[.int .u32 ((h + v) % 4294967296), x]) := by
  have c0 : w.cell? ⟨g, 0, none⟩ = some (.int .u32 h) := hb.cell 0
  have f0 := hb.free 0
  have HB := Lib.hid hb
  clear hb
  go_enter Try.func56, Try.ntmps56
  go_wp2
  go_end0
  exact ⟨rfl, gb_set _ _ _ _, HB.out.set 0 _⟩
theorem and16 (s : Int) (h0 : 0 ≤ s) (h1 : s < 4294967296) : bits .and .u32 s 65535 = s % 65536 := by
  have := bits_mask .u32 32 (by decide) wraps_u32 16 (by decide) s h0 (by simpa using h1)
  simpa using this

def sumOf (w : World) (g : Nat) : Nat := match w.cell? ⟨g, 0, none⟩ with
  | some v => (intOf v).toNat
  | none => 0
theorem sumOf_at {w : World} {g : Nat} {t : TypeId} {s : Int} {x : Value} (h : IsB w g t #[.int .u32 s, x]) : sumOf w g = s.toNat := by
  unfold sumOf
  have c0 : w.cell? ⟨g, 0, none⟩ = some (.int .u32 s) := h.cell 0
  rw [c0]; rfl
set_option maxHeartbeats 1000000 in
theorem fold_any (w : World) (g : Nat) (t : TypeId) (s : Int) (x : Value) (hb : IsB w g t #[.int .u32 s, x]) (h0 : 0 ≤ s) (h1 : s < 4294967296) :
    Calls Try.prog 57 #[.pointer (some ⟨g, 0, none⟩)] w (Turn w g t #[.int .u32 (fold16 s), x]) := by
  have HB := Lib.hid hb
  clear hb
  go_enter Try.func57, Try.ntmps57
  go_wp2
  go_loopw [] (fun wr => ∃ s2 : Int, IsB wr g t #[.int .u32 s2, x] ∧ fold16 s2 = fold16 s ∧ 0 ≤ s2 ∧ s2 < 4294967296 ∧ w.grownBy wr (some g)) (fun wr => sumOf wr g)
  case atStart => exact ⟨s, HB.out, rfl, h0, h1, gb_refl _ _⟩
  case round =>
    obtain ⟨s2, hb2, he, k0, k1, hg⟩ := hrel
    have c0 : wr.cell? ⟨g, 0, none⟩ = some (.int .u32 s2) := hb2.cell 0
    have f0 := hb2.free 0
    have HB2 := Lib.hid hb2
    have HE := Lib.hid he
    have HG := Lib.hid hg
    clear hb2 he hg HB
    by_cases hlt : 65535 < s2
    · have ha := and16 s2 k0 k1
      go_wp2_with fail
      have k3 := HB2.out.set 0 (.int .u32 (s2 % 65536))
      refine (add_any _ g t (s2 % 65536) (s2 / 65536) x k3).mono ?_
      rintro e w2 ⟨rfl, g2, b2⟩
      have e1 : (s2 % 65536 + s2 / 65536) % 4294967296 = s2 % 65536 + s2 / 65536 := by omega
      rw [e1] at b2
      have B2 := Lib.hid b2
      have G2 := Lib.hid (gb_trans HG.out (gb_trans (gb_set wr g 0 _) g2))
      clear g2 b2 k3
      go_wp2
      go_roundw
      case rel => exact ⟨_, B2.out, (fold16_step s2 hlt).trans HE.out, by omega, by omega, G2.out⟩
      case measure => rw [sumOf_at B2.out, sumOf_at HB2.out]; omega
    · go_wp2
      go_end0
      have e2 := HE.out
      rw [fold16_small s2 (by omega)] at e2
      subst e2
      exact ⟨rfl, HG.out, HB2.out⟩
theorem wutake_any (w : World) (g : Nat) (t : TypeId) (s b : Int) (o : Bool) (hb : IsB w g t #[.int .u32 s, .bool o]) (h0 : 0 ≤ s) (h1 : s ≤ 65535) (b0 : 0 ≤ b) (b1 : b ≤ 255) :
    Calls Try.prog 50 #[.pointer (some ⟨g, 0, none⟩), .int .u8 b] w (Turn w g t #[.int .u32 (fold16 (s + if o then b else 256 * b)), .bool (!o)]) := by
  have c1 : w.cell? ⟨g, 1, none⟩ = some (.bool o) := hb.cell 1
  have f1 := hb.free 1
  have HB := Lib.hid hb
  clear hb
  cases o with
  | false =>
    go_enter Try.func50, Try.ntmps50
    go_wp2_with fail
    have k1 := HB.out.set 1 (.bool true)
    refine (add_any _ g t s _ _ k1).mono ?_
    rintro e w2 ⟨rfl, g2, b2⟩
    have e1 : (s + b * 256) % 4294967296 = s + 256 * b := by omega
    rw [e1] at b2
    have B2 := Lib.hid b2
    have G2 := Lib.hid (gb_trans (gb_set w g 1 _) g2)
    clear g2 b2 k1
    go_wp2_with fail
    refine (fold_any w2 g t (s + 256 * b) _ B2.out (by omega) (by omega)).mono ?_
    rintro e w3 ⟨rfl, g3, b3⟩
    have B3 := Lib.hid b3
    have G3 := Lib.hid (gb_trans G2.out g3)
    clear g3 b3
    go_wp2
    go_end0
    exact ⟨rfl, G3.out, B3.out⟩
  | true =>
    go_enter Try.func50, Try.ntmps50
    go_wp2_with fail
    have k1 := HB.out.set 1 (.bool false)
    refine (add_any _ g t s _ _ k1).mono ?_
    rintro e w2 ⟨rfl, g2, b2⟩
    have e1 : (s + b) % 4294967296 = s + b := by omega
    rw [e1] at b2
    have B2 := Lib.hid b2
    have G2 := Lib.hid (gb_trans (gb_set w g 1 _) g2)
    clear g2 b2 k1
    go_wp2_with fail
    refine (fold_any w2 g t (s + b) _ B2.out (by omega) (by omega)).mono ?_
    rintro e w3 ⟨rfl, g3, b3⟩
    have B3 := Lib.hid b3
    have G3 := Lib.hid (gb_trans G2.out g3)
    clear g3 b3
    go_wp2
    go_end0
    exact ⟨rfl, G3.out, B3.out⟩
theorem wsum_next (bs : List Int) (i : Nat) : fold16 (wsum bs (i + 1)) = fold16 (wsum bs i + if decide (i % 2 = 1) then bs.getD i 0 else 256 * bs.getD i 0) := by
  by_cases h : i % 2 = 0
  · simp [wsum, h]
  · have h2 : i % 2 = 1 := by omega
    simp [wsum, h2]
theorem inet_any (w : World) (a : Option Addr) (n c : Nat) (bs : List Int) (h : SlR w a n c (bs.map (Value.int .u8))) (hb : ∀ x ∈ bs, 0 ≤ x ∧ x ≤ 255) (hn : bs.length ≤ 1000000) :
    Calls Try.prog 32 #[.slice a n c] w (RetQ (.int .u16 (inet bs)) w none fun _ => True) := by
  have HH := Lib.hid h
  clear h
  have hmf : ∀ (fn : Fn) (first cap : Array Value) (w : World), (Instr.makeFunc fn first cap).run Try.prog w = .ok (.func fn first cap) w := fun _ _ _ _ => rfl
  go_enter Try.func32, Try.ntmps32
  go_wp2_with fail
  have B0 := Lib.hid (IsB.new w 78 #[.int .u32 0, .bool false])
  have G0 := Lib.hid (gb_alloc w (.cells #[.int .u32 0, .bool false] 78) none)
  generalize w.alloc (.cells #[.int .u32 0, .bool false] 78) = w1 at *
  refine (feed_any 50 (.pointer (some ⟨w.heap.size, 0, none⟩)) w1 a n c bs (fun i w' => w.grownBy w' none ∧ IsB w' w.heap.size 78 #[.int .u32 (fold16 (wsum bs i)), .bool (decide (i % 2 = 1))]) ?_ ?_ hn (fun _ _ => by rfl) ?_).mono ?_
  · exact ⟨G0.out, by simpa [wsum, fold16] using B0.out⟩
  · intro i w' hJ
    exact HH.out.keep0 hJ.1
  · intro i w' hi hJ
    have hw := wsum_range hb i
    have hr := fold16_range (wsum bs i) hw.1
    have hx := getD_byte hb i
    refine (wutake_any w' _ _ _ _ _ hJ.2 hr.1 hr.2 hx.1 hx.2).mono ?_
    rintro e w2 ⟨rfl, g2, b2⟩
    refine ⟨rfl, gb_new (gb_trans (gb_any hJ.1) g2) (Nat.le_refl _), ?_⟩
    rw [fold16_add _ _ hw.1 (by split <;> omega), ← wsum_next] at b2
    have e2 : (!decide (i % 2 = 1)) = decide ((i + 1) % 2 = 1) := by
      by_cases h : i % 2 = 1
      · simp [h, show ¬ (i + 1) % 2 = 1 by omega]
      · simp [h, show (i + 1) % 2 = 1 by omega]
    rw [e2] at b2
    exact b2
  · rintro e w2 ⟨rfl, g2, b2⟩
    have c0 : w2.cell? ⟨w.heap.size, 0, none⟩ = some (.int .u32 (fold16 (wsum bs bs.length))) := b2.cell 0
    have hr := fold16_range _ (wsum_range hb bs.length).1
    have G2 := Lib.hid g2
    have e0 : inet bs = 65535 - fold16 (wsum bs bs.length) := rfl
    have E0 := Lib.hid e0
    clear g2 b2 e0
    generalize fold16 (wsum bs bs.length) = s at *
    go_wp2
    go_ret
    refine ⟨ret_i ?_, G2.out, trivial⟩
    rw [E0.out]

set_option maxHeartbeats 1000000 in
theorem rfnv_any (w : World) (a : Option Addr) (n c : Nat) (bs : List Int) (h : SlR w a n c (bs.map (Value.int .u8))) (hb : ∀ x ∈ bs, 0 ≤ x ∧ x ≤ 255) (hn : bs.length ≤ 1000000) :
    Calls Try.prog 31 #[.slice a n c] w (RetQ (.int .u32 (fnv bs)) w none fun _ => True) := by
  have hl : bs.length = n := by simpa using h.1
  subst hl
  have HH := Lib.hid h
  clear h
  go_enter Try.func31, Try.ntmps31
  go_wp2
  go_loopw [3, 4] (fun v i wr => ∃ k : Nat, k ≤ bs.length ∧ v = .int .u64 (fnv (bs.take k)) ∧ i = .int .i64 k ∧ w.grownBy wr none) (fun _ i _ => bs.length - (intOf i).toNat)
  case atStart => exact ⟨0, Nat.zero_le _, by simp [fnv, fnvG], rfl, gb_refl _ _⟩
  case round =>
    obtain ⟨j, hj, rfl, rfl, hg⟩ := hrel
    have HG := Lib.hid hg
    clear hg
    have hr := fnv_range (bs.take j)
    by_cases hlt : j < bs.length
    · cases a with
      | none => exact absurd (HH.out.2.1 rfl).1 (by omega)
      | some ad =>
        have c1 := (HH.out.keep0 HG.out).cellAt j hlt
        have hi : (j : Int) < bs.length := by omega
        have hx := getD_byte hb j
        have HF := Lib.hid (fnv_step bs j hlt)
        generalize bs.getD j 0 = x at *
        generalize fnv (bs.take j) = v at *
        have e1 := xor64 v x hr.1 hr.2 hx.1 (by omega)
        have hf := fxor_range v x hr.1 hr.2 hx.1 (by omega)
        have HF2 : fnvS v x = fxor v x * 16777619 % 4294967296 := rfl
        rw [HF2] at HF
        clear HF2
        generalize fxor v x = y at *
        go_wp2
        go_roundw
        case rel => exact ⟨j + 1, by omega, by rw [HF.out], by go_num, HG.out⟩
        case measure => simp [intOf]; omega
    · have hje : j = bs.length := by omega
      subst hje
      rw [List.take_length] at *
      obtain ⟨v, hv⟩ : ∃ v, v = fnv bs := ⟨_, rfl⟩
      rw [← hv] at hr ⊢
      have HV := Lib.hid hv
      clear hv
      go_wp2
      go_ret
      have := HV.out
      exact ⟨ret_i (by omega), HG.out, trivial⟩
end Go.Proofs.Ytplhhjbmegaiiaa
