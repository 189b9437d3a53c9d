/- The law on Pack and Unpack: its walk; no condition but that the arguments are slices of numbers. -/
import Derived.Test.YtiphcknnljjanaaIoRh
import Derived.Test.YtiphcknnljjanaaIoRu
namespace Go.Proofs.Ytiphcknnljjanaa
open Go.RowKit
set_option linter.unusedVariables false

theorem own_below {w w2 : World} {base : Nat} {e : TypeId} {size n : Nat} {v : Value} {xs : List Value} (h : w.ownsRow base e size v n xs) (k : Below w.heap.size w w2) : w2.ownsRow base e size v n xs := by
  refine ⟨h.1, ?_⟩
  rcases h.2 with q | ⟨g, cap, cur, q1, q2, q3, q4⟩
  · exact .inl q
  · exact .inr ⟨g, cap, cur, q1, q2, (k.block g (IsB.lt (show IsB w g e cur from q3))).trans q3, q4⟩
theorem upRun_len (bs : List Int) (pos : Nat) (us ns : List Int) : (upRun bs pos us ns).2.2.length ≤ us.length + ns.length := by
  induction ns generalizing pos us with
  | nil => simp [upRun]
  | cons n t ih =>
    rw [upRun]
    split
    · have := ih (rdStep bs pos n).2.2 (us ++ [(rdStep bs pos n).2.1])
      simp only [List.length_append, List.length_cons, List.length_nil] at this ⊢
      omega
    · simp only [List.length_append, List.length_cons, List.length_nil]
      omega
theorem unpackR_len (bs ns : List Int) : (unpackR bs ns).2.length ≤ ns.length := by
  have k := upRun_len bs 0 [] ns
  unfold unpackR
  split
  · split
    · simp
    · simpa using k
  · simp
theorem packs_small (a : Option Addr) (len cap : Nat) (a2 : Option Addr) (len2 cap2 : Nat) (a3 : Option Addr) (len3 cap3 : Nat) (W : World) (h : ¬ (len3 ≤ 200 ∧ len2 ≤ 100)) :
    Calls Try.prog 10 #[.slice a len cap, .slice a2 len2 cap2, .slice a3 len3 cap3] W fun e w' => e = .returned (.bool true) ∧ Below W.heap.size W w' := by
  have HN := Lib.hid (small_no a3 a2 len3 len2 cap3 cap2 W h)
  clear h
  go_enter Try.func10, Try.ntmps10
  go_wp2_with (first | (go_at_call 40; refine HN.out.mono ?_; rintro e w' ⟨rfl, rfl⟩) | (go_at_call 41; refine (works_any _).mono ?_; rintro e w' ⟨rfl, g⟩))
  go_ret
  exact ⟨rfl, by assumption⟩
theorem packs_large (a : Option Addr) (len cap : Nat) (a2 : Option Addr) (len2 cap2 : Nat) (a3 : Option Addr) (len3 cap3 : Nat) (W : World) (h : len3 ≤ 200) (h2 : len2 ≤ 100) (h3 : ¬ len ≤ 100) :
    Calls Try.prog 10 #[.slice a len cap, .slice a2 len2 cap2, .slice a3 len3 cap3] W fun e w' => e = .returned (.bool true) ∧ Below W.heap.size W w' := by
  have HN := Lib.hid (small_yes a3 a2 len3 len2 cap3 cap2 W h h2)
  have k3 : (100 : Int) < len := by omega
  clear h h2 h3
  go_enter Try.func10, Try.ntmps10
  go_wp2_with (first | (go_at_call 40; refine HN.out.mono ?_; rintro e w' ⟨rfl, rfl⟩) | (go_at_call 41; refine (works_any _).mono ?_; rintro e w' ⟨rfl, g⟩))
  go_ret
  exact ⟨rfl, by assumption⟩
set_option maxRecDepth 100000 in
set_option maxHeartbeats 3000000 in
theorem packs_on (a : Option Addr) (len cap : Nat) (vals : List Int) (a2 : Option Addr) (len2 cap2 : Nat) (ns : List Int) (a3 : Option Addr) (len3 cap3 : Nat) (bs : List Int) (W : World)
    (hs1 : SlR W a len cap (vals.map (Value.int .u32))) (hs2 : SlR W a2 len2 cap2 (ns.map (Value.int .i64))) (hs3 : SlR W a3 len3 cap3 (bs.map (Value.int .u8)))
    (hv : ∀ x ∈ vals, 0 ≤ x ∧ x < 4294967296) (hb : ∀ x ∈ bs, 0 ≤ x ∧ x ≤ 255) (h1 : len ≤ 100) (h2 : len2 ≤ 100) (h3 : len3 ≤ 200) :
    Calls Try.prog 10 #[.slice a len cap, .slice a2 len2 cap2, .slice a3 len3 cap3] W fun e w' => e = .returned (.bool true) ∧ Below W.heap.size W w' := by
  have HN := Lib.hid (small_yes a3 a2 len3 len2 cap3 cap2 W h3 h2)
  have E2 := Lib.hid (show ns.length ≤ 100 by have : ns.length = len2 := by simpa using hs2.1
                                              omega)
  have E3 := Lib.hid (show bs.length ≤ 200 by have : bs.length = len3 := by simpa using hs3.1
                                              omega)
  have S1 := Lib.hid hs1
  have S2 := Lib.hid hs2
  have S3 := Lib.hid hs3
  have k3 : ¬ (100 : Int) < len := by omega
  have HP := Lib.hid (pack_any W a len cap vals ns hs1 a2 len2 cap2 hs2 (by have := E2.out; omega) hv)
  clear hs1 hs2 hs3
  obtain ⟨pe, pb, hpr⟩ : ∃ pe pb, packR vals ns = (pe, pb) := ⟨_, _, rfl⟩
  obtain ⟨ue, ub, hur⟩ : ∃ ue ub, unpackR bs ns = (ue, ub) := ⟨_, _, rfl⟩
  have UL := Lib.hid (show ub.length ≤ 60000 by have k := unpackR_len bs ns; rw [hur] at k; have := E2.out; simp only at k; omega)
  go_enter Try.func10, Try.ntmps10
  go_wp2_with fail
  refine HN.out.mono ?_
  rintro e w0 ⟨rfl, rfl⟩
  rw [hpr] at HP
  go_wp2_with fail
  refine HP.out.mono ?_
  rintro e w1 ⟨v1, rfl, b1, o1, _⟩
  obtain ⟨c1, d1, rfl⟩ := own_shape o1
  have B1 := Lib.hid b1
  have O1 := Lib.hid o1
  have HP2 := Lib.hid (rpack_any w1 a len cap vals ns (S1.out.below b1) a2 len2 cap2 (S2.out.below b1) (by have := E2.out; omega) hv)
  rw [hpr] at HP2
  clear b1 o1 HP HN
  go_wp2_with fail
  refine HP2.out.mono ?_
  rintro e w2 ⟨v2, rfl, g2, o2⟩
  obtain ⟨c2, d2, rfl⟩ := own_shape o2
  have B2 := Lib.hid (B1.out.grown g2 B1.out.size (by intro k hk; cases hk))
  have O2 := Lib.hid (own_low o2 B1.out.size)
  have P2 := Lib.hid (own_keep0 O1.out g2)
  have HU := Lib.hid (unpack_any w2 a3 len3 cap3 bs (S3.out.below B2.out) hb (by have := E3.out; omega) a2 len2 cap2 ns (S2.out.below B2.out) (by have := E2.out; omega))
  rw [hur] at HU
  clear g2 o2 HP2 B1 O1
  go_wp2_with fail
  refine HU.out.mono ?_
  rintro e w3 ⟨v3, rfl, b3, o3⟩
  obtain ⟨c3, d3, rfl⟩ := own_shape o3
  have B3 := Lib.hid (below_step B2.out B2.out.size b3)
  have O3 := Lib.hid (own_low o3 B2.out.size)
  have hb3 := b3
  have Q3 := Lib.hid (own_below O2.out hb3)
  have P3 := Lib.hid (own_below P2.out hb3)
  have HU2 := Lib.hid (runpack_any w3 a3 len3 cap3 bs (S3.out.below B3.out) hb (by have := E3.out; omega) a2 len2 cap2 ns (S2.out.below B3.out) (by have := E2.out; omega))
  rw [hur] at HU2
  clear b3 hb3 o3 HU B2 O2 P2
  go_wp2_with fail
  refine HU2.out.mono ?_
  rintro e w4 ⟨v4, rfl, g4, o4⟩
  obtain ⟨c4, d4, rfl⟩ := own_shape o4
  have B4 := Lib.hid (B3.out.grown g4 B3.out.size (by intro k hk; cases hk))
  have O4 := Lib.hid (own_low o4 B3.out.size)
  have O5 := Lib.hid (own_keep0 O3.out g4)
  have Q4 := Lib.hid (own_keep0 Q3.out g4)
  have P4 := Lib.hid (own_keep0 P3.out g4)
  clear g4 o4 HU2 B3 O3 Q3 P3
  have hs1 := conv_str w4 _ _ _ pb (own_slr P4.out)
  have hs2 := conv_str w4 _ _ _ pb (own_slr Q4.out)
  have HE := Lib.hid (equ_same w4 c3 c4 ub.length ub.length d3 d4 ub (own_slr O5.out) (own_slr O4.out) UL.out)
  go_wp2_with (first | (go_at_call 62; refine HE.out.mono ?_; rintro e w5 ⟨rfl, g5, _⟩) | (go_at_call 41; refine (works_any _).mono ?_; rintro e w6 ⟨rfl, b6⟩))
  go_ret
  exact ⟨rfl, below_step (B4.out.grown g5 B4.out.size (by intro k hk; cases hk)) (Nat.le_trans B4.out.size g5.size) b6⟩
theorem packs_walk (a : Option Addr) (len cap : Nat) (z : List Int) (a2 : Option Addr) (len2 cap2 : Nat) (z2 : List Int) (a3 : Option Addr) (len3 cap3 : Nat) (z3 : List Int) (W : World) (h : IsRow .u32 W a len cap z) (h2 : IsRow .i64 W a2 len2 cap2 z2) (h3 : IsRow .u8 W a3 len3 cap3 z3) :
    Calls Try.prog 10 #[.slice a len cap, .slice a2 len2 cap2, .slice a3 len3 cap3] W fun e w' => e = .returned (.bool true) ∧ Below W.heap.size W w' := by
  by_cases hs : len3 ≤ 200 ∧ len2 ≤ 100
  · by_cases hl : len ≤ 100
    · exact packs_on a len cap (z.take len) a2 len2 cap2 (z2.take len2) a3 len3 cap3 (z3.take len3) W (row_slr h) (row_slr h2) (row_slr h3) (fun x hx => u32_bd2 (row_wf h x hx)) (fun x hx => u8_bd (row_wf h3 x hx)) hl hs.2 hs.1
    · exact packs_large a len cap a2 len2 cap2 a3 len3 cap3 W hs.1 hs.2 hl
  · exact packs_small a len cap a2 len2 cap2 a3 len3 cap3 W hs
end Go.Proofs.Ytiphcknnljjanaa
