/- Hashing and feeding bytes: the walks of FNV1a and what it calls; no condition but the bytes' range. -/
import Derived.Test.YtplhhjbmegaiiaaMem
namespace Go.Proofs.Ytplhhjbmegaiiaa
open Go.RowKit
set_option linter.unusedVariables false

def fxor (h b : Int) : Int := ((h.toNat ^^^ b.toNat : Nat) : Int)
def fnvS (h b : Int) : Int := fxor h b * 16777619 % 4294967296
def fnvG (h : Int) (bs : List Int) : Int := bs.foldl fnvS h
def fnv (bs : List Int) : Int := fnvG 2166136261 bs
theorem fxor_range (h b : Int) (h0 : 0 ≤ h) (h1 : h < 4294967296) (b0 : 0 ≤ b) (b1 : b < 4294967296) : 0 ≤ fxor h b ∧ fxor h b < 4294967296 := by
  have k := Nat.xor_lt_two_pow (n := 32) (x := h.toNat) (y := b.toNat) (by omega) (by omega)
  unfold fxor; omega
theorem xor32 (h b : Int) (h0 : 0 ≤ h) (h1 : h < 4294967296) (b0 : 0 ≤ b) (b1 : b < 4294967296) : bits .xor .u32 h b = fxor h b := by
  have ea : h = (h.toNat : Int) := by omega
  have eb : b = (b.toNat : Int) := by omega
  have hx : h.toNat ^^^ b.toNat < 2 ^ 32 := Nat.xor_lt_two_pow (by omega) (by omega)
  have h1' : (BitVec.ofInt 32 (h.toNat : Int)).toNat = h.toNat := by
    rw [BitVec.ofInt_natCast, BitVec.toNat_ofNat]; exact Nat.mod_eq_of_lt (by omega)
  have h2' : (BitVec.ofInt 32 (b.toNat : Int)).toNat = b.toNat := by
    rw [BitVec.ofInt_natCast, BitVec.toNat_ofNat]; exact Nat.mod_eq_of_lt (by omega)
  rw [ea, eb]
  show IntKind.u32.wrap ((BitVec.ofInt 32 (h.toNat : Int) ^^^ BitVec.ofInt 32 (b.toNat : Int)).toNat : Int) = _
  rw [BitVec.toNat_xor, h1', h2', wrap32_u]
  simp only [fxor, Int.toNat_natCast]
  omega
theorem xor64 (h b : Int) (h0 : 0 ≤ h) (h1 : h < 4294967296) (b0 : 0 ≤ b) (b1 : b < 4294967296) : bits .xor .u64 h b = fxor h b := by
  have ea : h = (h.toNat : Int) := by omega
  have eb : b = (b.toNat : Int) := by omega
  have k := bits_xor_u64_nat h.toNat b.toNat (by omega) (by omega)
  unfold fxor
  rw [← k, ← ea, ← eb]
theorem fnvS_range (h b : Int) : 0 ≤ fnvS h b ∧ fnvS h b < 4294967296 := by unfold fnvS; omega
theorem fnvG_range (bs : List Int) (h : Int) (h0 : 0 ≤ h) (h1 : h < 4294967296) : 0 ≤ fnvG h bs ∧ fnvG h bs < 4294967296 := by
  induction bs generalizing h with
  | nil => exact ⟨h0, h1⟩
  | cons b t ih => exact ih (fnvS h b) (fnvS_range h b).1 (fnvS_range h b).2
theorem fnvG_snoc (h : Int) (bs : List Int) (b : Int) : fnvG h (bs ++ [b]) = fnvS (fnvG h bs) b := by simp [fnvG]
theorem take_snoc (bs : List Int) (k : Nat) (h : k < bs.length) : bs.take (k + 1) = bs.take k ++ [bs.getD k 0] := by
  rw [List.take_add_one]; simp [h]
theorem fnv_step (bs : List Int) (k : Nat) (h : k < bs.length) : fnv (bs.take (k + 1)) = fnvS (fnv (bs.take k)) (bs.getD k 0) := by
  rw [take_snoc bs k h]; exact fnvG_snoc _ _ _
theorem fnv_range (bs : List Int) : 0 ≤ fnv bs ∧ fnv bs < 4294967296 := fnvG_range bs _ (by decide) (by decide)
theorem getD_byte {bs : List Int} (hb : ∀ x ∈ bs, 0 ≤ x ∧ x ≤ 255) (k : Nat) : 0 ≤ bs.getD k 0 ∧ bs.getD k 0 ≤ 255 := by
  by_cases h : k < bs.length
  · have := hb bs[k] (List.getElem_mem h)
    simpa [h] using this
  · simp [h]

/-- The call gives nothing back, and changes one block alone, in this way. -/
def Turn (w : World) (g : Nat) (t : TypeId) (cs : Array Value) (e : Ending) (w' : World) : Prop := e = .returned (.tuple #[]) ∧ w.grownBy w' (some g) ∧ IsB w' g t cs

theorem xor_any (w : World) (g : Nat) (t : TypeId) (h v : Int) (hb : IsB w g t #[.int .u32 h]) (h0 : 0 ≤ h) (h1 : h < 4294967296) (v0 : 0 ≤ v) (v1 : v < 4294967296) :
    Calls Try.prog 54 #[.pointer (some ⟨g, 0, none⟩), .int .u32 v] w (Turn w g t #[.int .u32 (fxor h v)]) := by
  have c0 : w.cell? ⟨g, 0, none⟩ = some (.int .u32 h) := hb.cell 0
  have f0 := hb.free 0
  have HB := Lib.hid hb
  clear hb
  go_enter Try.func54, Try.ntmps54
  go_wp2
  go_end0
  refine ⟨rfl, gb_set _ _ _ _, ?_⟩
  have k := HB.out.set 0 (.int .u32 (bits .xor .u32 h v))
  rw [xor32 h v h0 h1 v0 v1] at k ⊢
  exact k
theorem mul_any (w : World) (g : Nat) (t : TypeId) (h v : Int) (hb : IsB w g t #[.int .u32 h]) :
    Calls Try.prog 55 #[.pointer (some ⟨g, 0, none⟩), .int .u32 v] w (Turn w g t #[.int .u32 (h * v % 4294967296)]) := by
  have c0 : w.cell? ⟨g, 0, none⟩ = some (.int .u32 h) := hb.cell 0
  have f0 := hb.free 0
  have HB := Lib.hid hb
  clear hb
  go_enter Try.func55, Try.ntmps55
  go_wp2
  go_end0
  exact ⟨rfl, gb_set _ _ _ _, HB.out.set 0 _⟩
theorem fhtake_any (w : World) (g : Nat) (t : TypeId) (h b : Int) (hb : IsB w g t #[.int .u32 h]) (h0 : 0 ≤ h) (h1 : h < 4294967296) (b0 : 0 ≤ b) (b1 : b ≤ 255) :
    Calls Try.prog 49 #[.pointer (some ⟨g, 0, none⟩), .int .u8 b] w (Turn w g t #[.int .u32 (fnvS h b)]) := by
  have HB := Lib.hid hb
  clear hb
  go_enter Try.func49, Try.ntmps49
  go_wp2_with fail
  refine (xor_any w g t h b HB.out h0 h1 b0 (by omega)).mono ?_
  rintro e w1 ⟨rfl, g1, b1⟩
  have G1 := Lib.hid g1
  have B1 := Lib.hid b1
  clear g1 b1
  go_wp2_with fail
  refine (mul_any w1 g t (fxor h b) 16777619 B1.out).mono ?_
  rintro e w2 ⟨rfl, g2, b2⟩
  have G2 := Lib.hid g2
  have B2 := Lib.hid b2
  clear g2 b2
  go_wp2
  go_end0
  exact ⟨rfl, gb_trans G1.out G2.out, B2.out⟩

theorem feed_any (k : Nat) (p : Value) (w : World) (a : Option Addr) (n c : Nat) (bs : List Int) (J : Nat → World → Prop) (hJ : J 0 w) (hs : ∀ i w', J i w' → SlR w' a n c (bs.map (Value.int .u8))) (hn : bs.length ≤ 1000000)
    (hcf : ∀ (args : Array Value) (w : World), (callFunc k args).run Try.prog w = .ok (.enter k args) w)
    (hstep : ∀ i w', i < bs.length → J i w' → Calls Try.prog k #[p, .int .u8 (bs.getD i 0)] w' fun e w2 => e = .returned (.tuple #[]) ∧ J (i + 1) w2) :
    Calls Try.prog 48 #[.func (.func k) #[p] #[], .slice a n c] w fun e w' => e = .returned (.tuple #[]) ∧ J bs.length w' := by
  have hl : bs.length = n := by simpa using (hs 0 w hJ).1
  subst hl
  have HJ := Lib.hid hJ
  have HS := Lib.hid hs
  have HT := Lib.hid hstep
  clear hJ hs hstep
  go_enter Try.func48, Try.ntmps48
  go_wp2
  go_loopw [8] (fun i wr => ∃ k : Nat, k ≤ bs.length ∧ i = .int .i64 k ∧ J k wr) (fun i _ => bs.length - (intOf i).toNat)
  case atStart => exact ⟨0, Nat.zero_le _, rfl, HJ.out⟩
  case round =>
    obtain ⟨j, hj, rfl, hg⟩ := hrel
    have HG := Lib.hid hg
    clear hg
    by_cases hlt : j < bs.length
    · cases a with
      | none => exact absurd ((HS.out 0 w HJ.out).2.1 rfl).1 (by omega)
      | some ad =>
        have c1 := (HS.out j wr HG.out).cellAt j hlt
        have hi : (j : Int) < bs.length := by omega
        have HC := Lib.hid (HT.out j wr hlt HG.out)
        generalize bs.getD j 0 = x at *
        go_wp2_with fail
        refine HC.out.mono ?_
        rintro e w2 ⟨rfl, hj2⟩
        have HJ2 := Lib.hid hj2
        clear hj2
        go_wp2
        go_roundw
        case rel => exact ⟨j + 1, by omega, by go_num, HJ2.out⟩
        case measure => simp [intOf]; omega
    · have hje : j = bs.length := by omega
      subst hje
      go_wp2
      go_end0
      exact ⟨rfl, HG.out⟩

theorem fnv_any (w : World) (a : Option Addr) (n c : Nat) (bs : List Int) (h : SlR w a n c (bs.map (Value.int .u8))) (hb : ∀ x ∈ bs, 0 ≤ x ∧ x ≤ 255) (hn : bs.length ≤ 1000000) :
    Calls Try.prog 30 #[.slice a n c] w (RetQ (.int .u32 (fnv bs)) w none fun _ => True) := by
  have HH := Lib.hid h
  clear h
  have hmf : ∀ (fn : Fn) (first cap : Array Value) (w : World), (Instr.makeFunc fn first cap).run Try.prog w = .ok (.func fn first cap) w := fun _ _ _ _ => rfl
  go_enter Try.func30, Try.ntmps30
  go_wp2_with fail
  have B0 := Lib.hid (IsB.new w 74 #[.int .u32 2166136261])
  have G0 := Lib.hid (gb_alloc w (.cells #[.int .u32 2166136261] 74) none)
  generalize w.alloc (.cells #[.int .u32 2166136261] 74) = w1 at *
  refine (feed_any 49 (.pointer (some ⟨w.heap.size, 0, none⟩)) w1 a n c bs (fun i w' => w.grownBy w' none ∧ IsB w' w.heap.size 74 #[.int .u32 (fnv (bs.take i))]) ?_ ?_ hn (fun _ _ => by rfl) ?_).mono ?_
  · exact ⟨G0.out, by simpa [fnv, fnvG] using B0.out⟩
  · intro i w' hJ
    exact HH.out.keep0 hJ.1
  · intro i w' hi hJ
    have hr := fnv_range (bs.take i)
    have hx := getD_byte hb i
    refine (fhtake_any w' _ _ _ _ hJ.2 hr.1 hr.2 hx.1 hx.2).mono ?_
    rintro e w2 ⟨rfl, g2, b2⟩
    refine ⟨rfl, gb_new (gb_trans (gb_any hJ.1) g2) (Nat.le_refl _), ?_⟩
    rw [fnv_step bs i hi]; exact b2
  · rintro e w2 ⟨rfl, g2, b2⟩
    rw [List.take_length] at b2
    have c0 : w2.cell? ⟨w.heap.size, 0, none⟩ = some (.int .u32 (fnv bs)) := b2.cell 0
    have G2 := Lib.hid g2
    clear g2 b2
    go_wp2
    go_ret
    exact ⟨rfl, G2.out, trivial⟩
end Go.Proofs.Ytplhhjbmegaiiaa
