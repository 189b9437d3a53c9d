/- The program's LongestPath: theory and walk. -/
import Derived.Test.YtaikpjnegopelaaDgY
import Derived.Test.YtaikpjnegopelaaDgI
import Derived.Test.YtaikpjnegopelaaGrK
namespace Go.Proofs.Ytaikpjnegopelaa
open Go.RowKit
set_option linter.unusedVariables false

theorem argF_zero (d : List Int) (n : Nat) (h : 0 < n) : argF d n 0 0 = argF d (n - 1) 1 0 := by
  obtain ⟨m, rfl⟩ : ∃ m, n = m + 1 := ⟨n - 1, by omega⟩
  show argF d m 1 (if d.getD 0 0 < d.getD 0 0 then 0 else 0) = argF d m 1 0
  rw [if_neg (by omega)]
theorem levG_good (g : List (List Int)) (h : (topG g).isSome = true) : Good g (levG g) := by
  unfold levG
  cases e : topG g with
  | none => rw [e] at h; cases h
  | some L => exact lvL_good g L e
theorem long_down (g : List (List Int)) (h : (topG (revG g)).isSome = true) (m : Nat) (hm : m < g.length) (k : Nat) (hk : (levG (revG g)).getD m 0 = k) :
    desL g (levG (revG g)) ((k : Int) - 1) (m : Int) k = des g (levG (revG g)) m ∧ ∀ i, i ≤ k → 0 ≤ desV g (levG (revG g)) ((k : Int) - 1) (m : Int) i ∧ desV g (levG (revG g)) ((k : Int) - 1) (m : Int) i < (g.length : Int) := by
  have G := levG_good (revG g) h
  have q := down_same g (levG (revG g)) (levG (revG g)) k (fun _ _ _ _ _ => Iff.rfl) (fun k v hv hd => by
    rcases (G v (by rw [revG_len]; exact hv)).2.2 with e | ⟨u, h1, h2, h3⟩
    · omega
    · rw [revG_len] at h1
      refine ⟨u, h1, ?_⟩
      unfold okW
      rw [gEdge_rev] at h2
      rw [h2, Bool.and_true, decide_eq_true_eq]
      omega) k m hm hk (Int.le_refl _)
  refine ⟨?_, q.2⟩
  rw [q.1]
  unfold des
  rw [hk, Int.toNat_natCast]

set_option maxRecDepth 100000 in
set_option maxHeartbeats 2000000 in
theorem long_any (w : World) (a : Option Addr) (c : Nat) (g : List (List Int)) (h : SlG w a g.length c g) (hn : g.length ≤ 1000) :
    Calls Try.prog 24 #[.slice a g.length c] w (RetNB w.heap.size (longG g) (topG (revG g)).isSome w) := by
  have HH := Lib.hid h
  clear h
  have HLV := Lib.hid (fun (w1 : World) (b : Nat) (q : SlG w1 (some ⟨b, 0, none⟩) g.length g.length (revG g)) => by
    have k := levels_any w1 (some ⟨b, 0, none⟩) g.length (revG g) (by rw [revG_len]; exact q) (by rw [revG_len]; exact hn) (fun v hv => by
      rw [revG_len] at hv
      rw [revG_at g v hv]
      have := revUp_len g v g.length
      omega)
    rw [revG_len, fwG_eq] at k
    exact k)
  have HLD := Lib.hid (long_down g)
  obtain ⟨ok, hok⟩ : ∃ ok, ok = (topG (revG g)).isSome := ⟨_, rfl⟩
  have HOK := Lib.hid hok.symm
  rw [← hok] at HLV HLD ⊢
  clear hok
  go_enter Try.func24, Try.ntmps24
  go_wp2_with fail
  refine (rev_any w a g.length c g HH.out (by omega)).mono ?_
  rintro e w1 ⟨b, hb, rfl, q1, g1⟩
  have HL1 := Lib.hid (HLV.out w1 b q1)
  have G1 := Lib.hid g1
  have hs1 := g1.size
  clear q1 g1 HLV hb
  go_wp2_with fail
  refine HL1.out.mono ?_
  rintro e w2 ⟨V, rfl, q1, q2⟩
  have hs2 := q2.size
  have G2 := Lib.hid (gb_trans G1.out q2)
  obtain ⟨A, C, rfl⟩ := q1.shape
  have O2 := Lib.hid q1
  clear q1 q2 G1 HL1
  cases ok with
  | false =>
    have HE := Lib.hid (show longG g = [] by unfold longG; rw [HOK.out]; simp)
    obtain ⟨m, hm⟩ : ∃ m, m = (levG (revG g)).length := ⟨_, rfl⟩
    rw [← hm]
    clear hm
    go_wp2
    go_ret2
    exact ⟨_, rfl, by rw [HE.out]; exact NL.nil _ _, G2.out⟩
  | true =>
    have hlen := (levG_len (revG g) HOK.out).trans (revG_len g)
    have HL := Lib.hid (NL.slr O2.out rfl)
    rw [hlen] at HL ⊢
    have HLN := Lib.hid hlen
    clear hlen O2
    by_cases h0 : g.length = 0
    · have HE := Lib.hid (show longG g = [] by unfold longG; rw [if_neg (by omega)])
      have h0' : ((g.length : Nat) : Int) = 0 := by omega
      go_wp2
      go_ret2
      exact ⟨_, rfl, by rw [HE.out]; exact NL.nil _ _, G2.out⟩
    · have HE := Lib.hid (show longG g = des g (levG (revG g)) (argF (levG (revG g)) g.length 0 0) by unfold longG; rw [HOK.out, if_pos ⟨rfl, by omega⟩, argF_zero _ _ (by omega)])
      have HR := Lib.hid (fun j => levG_range (revG g) j)
      have HRL := Lib.hid (revG_len g)
      have hb0 : (((g.length : Nat) : Int) == 0) = false := by rw [beq_eq_false_iff_ne]; omega
      cases A with
      | none => exact absurd (HL.out.2.1 rfl).1 (by omega)
      | some ad =>
        have HLD2 := Lib.hid (HLD.out rfl)
        obtain ⟨d, hd⟩ : ∃ d, d = levG (revG g) := ⟨_, rfl⟩
        rw [← hd] at HL HLN HE HR HLD2
        obtain ⟨M, hM⟩ : ∃ M, M = argF d g.length 0 0 := ⟨_, rfl⟩
        have HM := Lib.hid hM.symm
        have hMn : M < g.length := by rw [hM]; exact argF_lt d g.length _ _ _ (by omega) (by omega)
        rw [← hM] at HE
        clear hd hM HLD
        go_wp2
        go_loopw [6, 25] (fun fr i wr => ∃ (v m f : Nat), v + f = g.length ∧ m < g.length ∧ i = .int .i64 v ∧ fr = .int .i64 m ∧ argF d f v m = M ∧ wr = w2) (fun _ i _ => g.length - (intOf i).toNat)
        case atStart => exact ⟨0, 0, g.length, by omega, by omega, rfl, rfl, HM.out, rfl⟩
        case round =>
          obtain ⟨v, m, f, hv, hm, rfl, rfl, hf, rfl⟩ := hrel
          have HF := Lib.hid hf
          clear hf
          by_cases hvt : v < g.length
          · obtain ⟨f, rfl⟩ : ∃ f2, f = f2 + 1 := ⟨f - 1, by omega⟩
            have i1 : (v : Int) < g.length := by omega
            have i2 : (m : Int) < g.length := by omega
            have c1 := HL.out.cellAt v (by rw [HLN.out]; exact hvt)
            have c2 := HL.out.cellAt m (by rw [HLN.out]; exact hm)
            have hff := HF.out
            rw [argF] at hff
            by_cases hlt : d.getD m 0 < d.getD v 0
            · rw [if_pos hlt] at hff
              have HX := Lib.hid hff
              clear hff
              generalize d.getD v 0 = z1 at *
              generalize d.getD m 0 = z2 at *
              go_wp2
              go_roundw
              case rel => exact ⟨v + 1, v, f, by omega, hvt, by go_num, rfl, HX.out, trivial⟩
              case measure => simp [intOf]; omega
            · rw [if_neg hlt] at hff
              have HX := Lib.hid hff
              clear hff
              generalize d.getD v 0 = z1 at *
              generalize d.getD m 0 = z2 at *
              go_wp2
              go_roundw
              case rel => exact ⟨v + 1, m, f, by omega, hm, by go_num, rfl, HX.out, trivial⟩
              case measure => simp [intOf]; omega
          · have hf0 : f = 0 := by omega
            subst hf0
            have hmM : m = M := HF.out
            subst hmM
            have i1 : ¬ (v : Int) < g.length := by omega
            have i2 : (m : Int) < g.length := by omega
            have c2 := HL.out.cellAt m (by rw [HLN.out]; exact hm)
            have hr := HR.out m
            have hrl := HRL.out
            obtain ⟨k, hk⟩ : ∃ k : Nat, d.getD m 0 = k := ⟨(d.getD m 0).toNat, by omega⟩
            have LD := HLD2.out m hm k hk
            rw [hk] at c2 hr
            have HDE := Lib.hid (descend_any wr a (some ad) c C g d (m : Int) ((k : Int) - 1) 0 k (HH.out.keep0 G2.out) HL.out (by omega) (by omega) (by omega) (by omega) LD.2)
            rw [LD.1] at HDE
            clear LD hk HR HRL HLD2
            go_wp2_with fail
            refine HDE.out.mono ?_
            rintro e w5 ⟨V3, rfl, q1, q2⟩
            obtain ⟨b3, d3, rfl⟩ := q1.shape
            have N3 := Lib.hid (own_low q1 G2.out.size)
            have G3 := Lib.hid (gb_trans G2.out q2)
            clear q1 q2 HDE
            go_wp2
            go_ret2
            exact ⟨_, rfl, by rw [HE.out]; exact N3.out, G3.out⟩
end Go.Proofs.Ytaikpjnegopelaa
