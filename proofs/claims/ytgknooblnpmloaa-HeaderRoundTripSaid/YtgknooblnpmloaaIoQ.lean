/- The walk of bitio's Pack; no condition but sizes: at most 1000 numbers. -/
import Derived.Test.YtgknooblnpmloaaIoP
namespace Go.Proofs.Ytgknooblnpmloaa
open Go.RowKit
set_option linter.unusedVariables false

theorem own_low {w : World} {base base2 : Nat} {e : TypeId} {size n : Nat} {v : Value} {xs : List Value} (h : w.ownsRow base e size v n xs) (hb : base2 ≤ base) : w.ownsRow base2 e size v n xs := by
  refine ⟨h.1, ?_⟩
  rcases h.2 with k | ⟨g, cap, cur, k1, k2, k3⟩
  · exact .inl k
  · exact .inr ⟨g, cap, cur, k1, Nat.le_trans hb k2, k3⟩
set_option maxRecDepth 100000 in
set_option maxHeartbeats 1000000 in
theorem pack_run (w : World) (a : Option Addr) (cap : Nat) (vals ns : List Int) (h : SlR w a vals.length cap (vals.map (Value.int .u32))) (a2 : Option Addr) (cap2 : Nat) (h2 : SlR w a2 ns.length cap2 (ns.map (Value.int .i64)))
    (hlen : vals.length = ns.length) (hn : ns.length ≤ 1000) (hr : ∀ x ∈ vals, 0 ≤ x ∧ x < 4294967296) (er : Int) (L : List Bool) (hq : pkRun [] (vals.zip ns) = (er, L)) (hL : L.length ≤ 60000) (er2 : Int) (bs : List Int)
    (hc : (er ≠ 0 ∧ er2 = er ∧ bs = []) ∨ (er = 0 ∧ ¬ L.length % 8 = 0 ∧ er2 = 10 ∧ bs = []) ∨ (er = 0 ∧ L.length % 8 = 0 ∧ er2 = 0 ∧ bs = packB L)) :
    Calls Try.prog 49 #[.slice a vals.length cap, .slice a2 ns.length cap2] w (RetP er2 bs w) := by
  have hq0 : ((vals.length : Int) != ns.length) = false := by rw [bne_eq_false_iff_eq]; omega
  have HL := Lib.hid hlen
  have HQ := Lib.hid hq
  have HC := Lib.hid hc
  clear hlen hq hc
  go_enter Try.func49, Try.ntmps49
  go_wp2_with fail
  refine (newWriter_any _).mono ?_
  rintro e w1 ⟨rfl, g1, q1⟩
  have hsz : (w.alloc (.cells #[.slice a vals.length cap] 44)).heap.size = w.heap.size + 1 := by simp
  have b0 : Below w.heap.size w (w.alloc (.cells #[.slice a vals.length cap] 44)) := (Below.refl _ _).alloc (Nat.le_refl _) _
  have b1 : Below w.heap.size w w1 := b0.grown g1 (by omega) (by intro k hk; cases hk)
  have v1 : IsB w1 w.heap.size 44 #[.slice a vals.length cap] := (IsB.new w _ _).keep0 g1
  have z1 := g1.size
  rw [hsz] at q1 z1
  have b2 := b1.alloc (by omega) (.cells #[.pointer (some ⟨w.heap.size + 1 + 1, 0, none⟩)] 53)
  have v2 := v1.alloc (.cells #[.pointer (some ⟨w.heap.size + 1 + 1, 0, none⟩)] 53)
  have w2 := IsB.new w1 53 #[.pointer (some ⟨w.heap.size + 1 + 1, 0, none⟩)]
  have q2 := q1.keep0 (gb_alloc w1 (.cells #[.pointer (some ⟨w.heap.size + 1 + 1, 0, none⟩)] 53) none)
  have HM := Lib.hid (each_pack w _ (w.heap.size + 1) (w.heap.size + 1 + 1) (w.heap.size + 1) w1.heap.size w.heap.size _ a a2 cap cap2 vals ns er L q2 (by simp; omega) w2 v2 b2 (by omega) h h2 HL.out hn hr HQ.out)
  have HW2 := Lib.hid w2
  have HB2 := Lib.hid b2
  have HZ := Lib.hid z1
  clear g1 q1 q2 b0 b1 b2 v1 v2 w2 z1 hsz
  go_wp2_with fail
  refine HM.out.mono ?_
  rintro e w3 ⟨rfl, q3, V3, q4⟩
  have HB3 := Lib.hid (show Below w.heap.size w w3 from HB2.out.trans ((q3.below (by have := HZ.out; simp; omega)).mono (by omega)))
  have HW3 := Lib.hid (q3.kind _ _ _ HW2.out (by decide) (by decide))
  have HQ4 := Lib.hid q4
  have c3 : w3.cell? ⟨w1.heap.size, 0, none⟩ = some (.pointer (some ⟨w.heap.size + 1 + 1, 0, none⟩)) := HW3.out.cell 0
  clear q3 q4 hq0
  by_cases he : er = 0
  · subst he
    by_cases hm : L.length % 8 = 0
    · have HE := Lib.hid (show er2 = 0 ∧ bs = packB L by
        rcases HC.out with ⟨k, _⟩ | ⟨_, k, _⟩ | ⟨_, _, k1, k2⟩
        · exact absurd rfl k
        · exact absurd hm k
        · exact ⟨k1, k2⟩)
      have HY := Lib.hid (bytes_even w3 _ _ _ _ _ HQ4.out hL hm)
      clear hm
      go_wp2_with fail
      refine HY.out.mono ?_
      rintro e w5 ⟨v', rfl, g5, o5, n5⟩
      have HG5 := Lib.hid g5
      have HO5 := Lib.hid o5
      have HN5 := Lib.hid n5
      clear g5 o5 n5
      go_wp2
      go_ret2
      refine ⟨v', ?_, HB3.out.grown HG5.out HB3.out.size (by intro k hk; cases hk), ?_, ?_⟩
      · rw [HE.out.1]; rfl
      · rw [HE.out.2]; exact own_low HO5.out HB3.out.size
      · rw [HE.out.2]; exact HN5.out
    · have HE := Lib.hid (show er2 = 10 ∧ bs = [] by
        rcases HC.out with ⟨k, _⟩ | ⟨_, _, k1, k2⟩ | ⟨_, k, _⟩
        · exact absurd rfl k
        · exact ⟨k1, k2⟩
        · exact absurd k hm)
      have HY := Lib.hid (bytes_odd w3 _ _ _ _ _ HQ4.out hm)
      clear hm
      go_wp2_with fail
      refine HY.out.mono ?_
      rintro e w5 ⟨rfl, g5, _⟩
      have HG5 := Lib.hid g5
      clear g5
      go_wp2
      go_ret2
      rw [HE.out.1, HE.out.2]
      exact RetP.nil (HB3.out.grown HG5.out HB3.out.size (by intro k hk; cases hk)) rfl
  · have HE := Lib.hid (show er2 = er ∧ bs = [] by
      rcases HC.out with ⟨_, k⟩ | ⟨k, _⟩ | ⟨k, _⟩
      · exact k
      · exact absurd k he
      · exact absurd k he)
    have hne : (er != 0) = true := by simpa using he
    clear he
    go_wp2
    go_ret2
    rw [HE.out.1, HE.out.2]
    exact RetP.nil HB3.out rfl
theorem pkRun_all (L : List Bool) (ps : List (Int × Int)) : (pkRun L ps).2.length ≤ L.length + 32 * ps.length := by
  induction ps generalizing L with
  | nil => simp [pkRun]
  | cons p t ih =>
    obtain ⟨v, n⟩ := p
    have k := pkRun_len L v n
    rw [pkRun, List.length_cons]
    split
    · have := ih (wrStep L v n).2; omega
    · omega
theorem pack_any (w : World) (a : Option Addr) (len cap : Nat) (vals ns : List Int) (h : SlR w a len cap (vals.map (Value.int .u32))) (a2 : Option Addr) (len2 cap2 : Nat) (h2 : SlR w a2 len2 cap2 (ns.map (Value.int .i64)))
    (hn : ns.length ≤ 1000) (hr : ∀ x ∈ vals, 0 ≤ x ∧ x < 4294967296) :
    Calls Try.prog 49 #[.slice a len cap, .slice a2 len2 cap2] w (RetP (packR vals ns).1 (packR vals ns).2 w) := by
  have e1 : vals.length = len := by simpa using h.1
  have e2 : ns.length = len2 := by simpa using h2.1
  subst e1; subst e2
  by_cases hl : vals.length = ns.length
  · have hb := pkRun_all [] (vals.zip ns)
    have hz : (vals.zip ns).length ≤ ns.length := by simp; omega
    refine pack_run w a cap vals ns h a2 cap2 h2 hl hn hr (pkRun [] (vals.zip ns)).1 (pkRun [] (vals.zip ns)).2 rfl (by simp only [List.length_nil] at hb; omega) _ _ ?_
    unfold packR
    rw [if_pos hl]
    by_cases he : (pkRun [] (vals.zip ns)).1 = 0
    · rw [if_pos he]
      by_cases hm : (pkRun [] (vals.zip ns)).2.length % 8 = 0
      · rw [if_pos hm]; exact .inr (.inr ⟨he, hm, rfl, rfl⟩)
      · rw [if_neg hm]; exact .inr (.inl ⟨he, hm, rfl, rfl⟩)
    · rw [if_neg he]; exact .inl ⟨he, rfl, rfl⟩
  · have k := pack_args w a vals.length cap vals ns h a2 ns.length cap2 h2 hl
    unfold packR
    rw [if_neg hl]
    exact k
end Go.Proofs.Ytgknooblnpmloaa
