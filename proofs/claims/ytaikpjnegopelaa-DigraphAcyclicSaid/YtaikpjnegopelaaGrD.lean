/- The walk of the reference's distances. -/
import Derived.Test.YtaikpjnegopelaaGrC
namespace Go.Proofs.Ytaikpjnegopelaa
open Go.RowKit
set_option linter.unusedVariables false

/-- A row of the call's own at block b, and the world beside it only grew. -/
def NW (W : World) (base b n : Nat) (L : List Int) (w : World) : Prop := NL w base (.slice (some ⟨b, 0, none⟩) n n) L ∧ L.length = n ∧ W.grownBy w none
theorem NW.put {W w : World} {base b n : Nat} {L : List Int} (h : NW W base b n L w) (hb : W.heap.size ≤ base) (p : Nat) (v : Int) : NW W base b n (L.set p v) (w.setCell ⟨b, p, none⟩ (.int .i64 v)) :=
  ⟨h.1.put h.2.1.symm p v, by simp [h.2.1], gb_new (gb_trans (gb_any h.2.2) (gb_set w b p _)) (Nat.le_trans hb h.1.low)⟩
theorem NW.at_ {W w : World} {base b n : Nat} {L : List Int} (h : NW W base b n L w) (p : Nat) (hp : p < n) : w.cell? ⟨b, p, none⟩ = some (.int .i64 (L.getD p 0)) := h.1.at_ h.2.1.symm p (by rw [h.2.1]; exact hp)
theorem NW.free {W w : World} {base b n : Nat} {L : List Int} (h : NW W base b n L w) (p : Nat) : w.frozen? ⟨b, p, none⟩ = false := h.1.free h.2.1.symm p
theorem NW.ret {W w : World} {base b n : Nat} {L M : List Int} (h : NW W base b n L w) (e : L = M) : RetN base M W (.returned (.slice (some ⟨b, 0, none⟩) n n)) w := by subst e; exact ⟨_, rfl, h.1, h.2.2⟩

set_option maxRecDepth 100000 in
set_option maxHeartbeats 1000000 in
theorem rdist_any (w : World) (a : Option Addr) (n c : Nat) (g : List (List Int)) (to : Int) (h : SlG w a n c g) (hn : n ≤ 100000) (ht : -9223372036854775808 ≤ to ∧ to ≤ 9223372036854775807) :
    Calls Try.prog 35 #[.slice a n c, .int .i64 to] w (RetN w.heap.size (distL g to) w) := by
  obtain ⟨i0, hi, hz0, hz1, hz2⟩ := info_parts infoI64
  have HI := Lib.hid hi
  have HH := Lib.hid h
  have hl := h.1
  obtain ⟨ht1, ht2⟩ := ht
  clear hi h
  subst hl
  go_enter Try.func35, Try.ntmps35
  go_wp2_with (at_make; refine wpList_make_full _ rfl _ _ 31 rfl w.heap.size 3 i0 (.int .i64 0) 1 Try.underlying31 HI.out hz0 hz1 .i64 .i64 _ _ g.length rfl rfl ?c1 ?c2 ?c3 ?c4 ?c5 ?_)
  case c1 => first | rfl | omega
  case c2 => first | rfl | omega
  case c3 => rw [hz2]; omega
  case c4 => unfold maxLen; omega
  case c5 => simp
  intro w2 hown hg
  have N1 := Lib.hid (show NW w w.heap.size w.heap.size g.length (tab g.length fun u => if u < 0 then -1 else 0) w2 by
    refine ⟨?_, tab_len _ _, hg⟩
    unfold NL
    rw [tab_len, show (tab g.length fun u => if u < 0 then (-1 : Int) else 0) = tab g.length (fun _ => 0) from tab_congr fun j _ => by rw [if_neg (Nat.not_lt_zero _)], tab_const, List.map_replicate, ← made_zero]
    first | exact hown | simpa using hown)
  clear hown hg
  go_wp2_with fail
  go_loopw [6] (fun i wr => ∃ k : Nat, k ≤ g.length ∧ i = .int .i64 k ∧ NW w w.heap.size w.heap.size g.length (tab g.length fun u => if u < k then -1 else 0) wr) (fun i _ => g.length - (intOf i).toNat)
  case atStart => exact ⟨0, Nat.zero_le _, rfl, N1.out⟩
  case round =>
    obtain ⟨k, hk, rfl, q1⟩ := hrel
    clear N1
    have N1 := Lib.hid q1
    clear q1
    by_cases hlt : k < g.length
    · have f1 := N1.out.free k
      have N2 := Lib.hid (show NW w w.heap.size w.heap.size g.length (tab g.length fun u => if u < k + 1 then -1 else 0) (wr.setCell ⟨w.heap.size, k, none⟩ (.int .i64 (-1))) by
        have q := N1.out.put (Nat.le_refl _) k (-1)
        rw [tab_set] at q
        have e : (tab g.length fun u => if u = k then (-1 : Int) else if u < k then -1 else 0) = tab g.length fun u => if u < k + 1 then -1 else 0 := tab_congr fun j _ => by
          by_cases e1 : j = k
          · rw [if_pos e1, if_pos (by omega)]
          · by_cases e2 : j < k
            · rw [if_neg e1, if_pos e2, if_pos (by omega)]
            · rw [if_neg e1, if_neg e2, if_neg (by omega)]
        rw [e] at q
        exact q)
      have c1 := N1.out.at_ k hlt
      have i1 : (k : Int) < g.length := by omega
      go_wp2
      go_roundw
      case rel => exact ⟨k + 1, by omega, by go_num, N2.out⟩
      case measure => simp [intOf]; omega
    · have hke : k = g.length := by omega
      subst hke
      have N2 := Lib.hid (show NW w w.heap.size w.heap.size g.length (tab g.length fun _ => -1) wr by
        have q := N1.out
        rw [show (tab g.length fun u => if u < g.length then (-1 : Int) else 0) = tab g.length fun _ => -1 from tab_congr fun j hj => by rw [if_pos hj]] at q
        exact q)
      clear N1 hlt
      by_cases hin : 0 ≤ to ∧ to < g.length
      · obtain ⟨t, rfl⟩ : ∃ t : Nat, to = (t : Int) := ⟨to.toNat, by omega⟩
        have htn : t < g.length := by omega
        have i1 : (t : Int) < g.length := by omega
        have hD := Lib.hid (show distL g (t : Int) = tab g.length (gD g t g.length) by unfold distL; rw [if_pos hin, Int.toNat_natCast])
        have f1 := N2.out.free t
        have c1 := N2.out.at_ t htn
        have N3 := Lib.hid (show NW w w.heap.size w.heap.size g.length (tab g.length (gD g t 0)) (wr.setCell ⟨w.heap.size, t, none⟩ (.int .i64 0)) by
          have q := N2.out.put (Nat.le_refl _) t 0
          rw [tab_set] at q
          exact q)
        clear hin ht1 ht2
        have d1 : decide (g.length ≤ t) = false := decide_eq_false (by omega)
        have d2 : decide ((t : Int) < 0) = false := decide_eq_false (by omega)
        go_wp2
        clear f1 c1 N2 d1 d2
        go_loopw [7] (fun i wr => ∃ k : Nat, k ≤ g.length ∧ i = .int .i64 k ∧ NW w w.heap.size w.heap.size g.length (tab g.length (gD g t k)) wr) (fun i _ => g.length - (intOf i).toNat)
        case atStart => exact ⟨0, Nat.zero_le _, rfl, N3.out⟩
        case round =>
          obtain ⟨k, hk, rfl, q1⟩ := hrel
          clear N3
          have N3 := Lib.hid q1
          clear q1
          by_cases hlt : k < g.length
          · have i2 : (k : Int) < g.length := by omega
            go_wp2
            go_loopw [8] (fun i wr => ∃ v : Nat, v ≤ g.length ∧ i = .int .i64 v ∧ NW w w.heap.size w.heap.size g.length (gMix g t k v) wr) (fun i _ => g.length - (intOf i).toNat)
            case atStart => exact ⟨0, Nat.zero_le _, rfl, by rw [gMix_zero]; exact N3.out⟩
            case round =>
              obtain ⟨v, hv, rfl, q1⟩ := hrel
              clear N3
              have N3 := Lib.hid q1
              clear q1
              by_cases hvt : v < g.length
              · have i3 : (v : Int) < g.length := by omega
                have AT := Lib.hid (show (gMix g t k v).getD v 0 = gD g t k v by rw [gMix_at g t k v v hvt, if_neg (Nat.lt_irrefl v)])
                go_wp2
                go_loopw [9] (fun i wr => ∃ (x : Nat) (L : List Int), x ≤ g.length ∧ i = .int .i64 x ∧ NW w w.heap.size w.heap.size g.length L wr ∧ (0 ≤ L.getD v 0 → L = gMix g t k (v + 1)) ∧ (L.getD v 0 < 0 → L = gMix g t k v ∧ ∀ y, y < x → ¬ (gD g t k y = k ∧ gEdge g v y = true))) (fun i _ => g.length - (intOf i).toNat)
                case atStart => exact ⟨0, gMix g t k v, Nat.zero_le _, rfl, N3.out, fun hh => (gMix_same g t k v (gD_old g t k v (by rw [AT.out] at hh; exact hh))).symm, fun _ => ⟨rfl, fun y hy => absurd hy (Nat.not_lt_zero _)⟩⟩
                case round =>
                  obtain ⟨x, L, hx, rfl, q1, q2, q3⟩ := hrel
                  clear N3
                  have N3 := Lib.hid q1
                  have c1 := q1.at_ v hvt
                  have f1 := q1.free v
                  have HH3 := Lib.hid (HH.out.keep0 q1.2.2)
                  by_cases hxt : x < g.length
                  · have i4 : (x : Int) < g.length := by omega
                    by_cases hz : L.getD v 0 < 0
                    · obtain ⟨e1, e2⟩ := q3 hz
                      have E1 := Lib.hid e1
                      have E2 := Lib.hid e2
                      have c2 := q1.at_ x hxt
                      have hg0 : gD g t k v < 0 := by rw [e1, AT.out] at hz; exact hz
                      have HG0 := Lib.hid hg0
                      have hiff : L.getD x 0 = k ↔ gD g t k x = k := by rw [e1]; exact gMix_is g t k v x hxt
                      by_cases hk2 : L.getD x 0 = k
                      · have K2 := Lib.hid (hiff.1 hk2)
                        by_cases he : gEdge g v x = true
                        · have NX := Lib.hid (show NW w w.heap.size w.heap.size g.length (gMix g t k (v + 1)) (wr.setCell ⟨w.heap.size, v, none⟩ (.int .i64 ((k : Int) + 1))) by
                            have q := N3.out.put (Nat.le_refl _) v ((k : Int) + 1)
                            rw [E1.out, gMix_set g t k v _ (gD_new g t k v x hg0 hxt K2.out he)] at q
                            exact q)
                          have VX := Lib.hid (show ¬ (gMix g t k (v + 1)).getD v 0 < 0 by
                            rw [gMix_at g t k (v + 1) v hvt, if_pos (by omega), gD_new g t k v x hg0 hxt K2.out he]; omega)
                          have HE := Lib.hid he
                          rw [hk2] at c2
                          clear q1 q2 q3 e1 e2 hiff hk2 he hg0 K2 E1 E2
                          generalize L.getD v 0 = z at *
                          go_wp2_with fail
                          refine (redge_any _ _ _ _ g v x HH3.out (by omega) (by omega)).mono ?_
                          rintro e w1 ⟨rfl, rfl⟩
                          rw [HE.out]
                          go_wp2
                          go_roundw
                          case rel => exact ⟨x + 1, _, by omega, by go_num, NX.out, fun _ => rfl, fun hh => by have := VX.out; omega⟩
                          case measure => simp [intOf]; omega
                        · have HE := Lib.hid (show gEdge g v x = false by simpa using he)
                          have Y := Lib.hid (show ∀ y, y < x + 1 → ¬ (gD g t k y = k ∧ gEdge g v y = true) from fun y hy => by
                            rcases (show y < x ∨ y = x by omega) with q | rfl
                            · exact E2.out y q
                            · exact fun hh => he hh.2)
                          have Q2 := Lib.hid q2
                          rw [hk2] at c2
                          have HZ := Lib.hid hz
                          clear q1 q2 q3 e1 e2 hiff hk2 he hg0 K2
                          obtain ⟨z, hzz⟩ : ∃ z, z = L.getD v 0 := ⟨_, rfl⟩
                          rw [← hzz] at c1 hz
                          clear hzz
                          go_wp2_with fail
                          refine (redge_any _ _ _ _ g v x HH3.out (by omega) (by omega)).mono ?_
                          rintro e w1 ⟨rfl, rfl⟩
                          rw [HE.out]
                          go_wp2
                          go_roundw
                          case rel => exact ⟨x + 1, L, by omega, by go_num, N3.out, Q2.out, fun _ => ⟨E1.out, Y.out⟩⟩
                          case measure => simp [intOf]; omega
                      · have Y := Lib.hid (show ∀ y, y < x + 1 → ¬ (gD g t k y = k ∧ gEdge g v y = true) from fun y hy => by
                            rcases (show y < x ∨ y = x by omega) with q | rfl
                            · exact E2.out y q
                            · exact fun hh => hk2 (hiff.2 hh.1))
                        have Q2 := Lib.hid q2
                        clear q1 q2 q3 e1 e2 hiff hg0
                        obtain ⟨z, hzz⟩ : ∃ z, z = L.getD v 0 := ⟨_, rfl⟩
                        obtain ⟨z2, hzz2⟩ : ∃ z, z = L.getD x 0 := ⟨_, rfl⟩
                        rw [← hzz] at c1 hz
                        rw [← hzz2] at c2 hk2
                        clear hzz hzz2
                        go_wp2
                        go_roundw
                        case rel => exact ⟨x + 1, L, by omega, by go_num, N3.out, Q2.out, fun _ => ⟨E1.out, Y.out⟩⟩
                        case measure => simp [intOf]; omega
                    · have NX := Lib.hid (show NW w w.heap.size w.heap.size g.length (gMix g t k (v + 1)) wr by rw [← q2 (by omega)]; exact q1)
                      clear q1 q2 q3
                      generalize L.getD v 0 = z at *
                      go_wp2
                      go_roundw
                      case rel => exact ⟨v + 1, by omega, by go_num, NX.out⟩
                      case measure => simp [intOf]; omega
                  · have NX := Lib.hid (show NW w w.heap.size w.heap.size g.length (gMix g t k (v + 1)) wr by
                      by_cases hz : L.getD v 0 < 0
                      · obtain ⟨e1, e2⟩ := q3 hz
                        have hg0 : gD g t k v < 0 := by rw [e1, AT.out] at hz; exact hz
                        rw [gMix_same g t k v ((gD_none g t k v hg0 fun y hy => e2 y (by omega)).trans (gD_neg g t k v hg0).symm), ← e1]
                        exact q1
                      · rw [← q2 (by omega)]; exact q1)
                    have i4 : ¬ (x : Int) < g.length := by omega
                    clear q1 q2 q3 c1 f1
                    go_wp2
                    go_roundw
                    case rel => exact ⟨v + 1, by omega, by go_num, NX.out⟩
                    case measure => simp [intOf]; omega
              · have hve : v = g.length := by omega
                subst hve
                have NX := Lib.hid (show NW w w.heap.size w.heap.size g.length (tab g.length (gD g t (k + 1))) wr by rw [← gMix_full]; exact N3.out)
                clear N3
                go_wp2
                go_roundw
                case rel => exact ⟨k + 1, by omega, by go_num, NX.out⟩
                case measure => simp [intOf]; omega
          · have hke : k = g.length := by omega
            subst hke
            go_wp2
            go_ret
            exact N3.out.ret hD.out.symm
      · have hD := Lib.hid (show distL g to = tab g.length fun _ => -1 by unfold distL; rw [if_neg hin])
        by_cases h1 : 0 ≤ to
        · have h2 : ¬ to < g.length := fun k => hin ⟨h1, k⟩
          go_wp2
          go_ret
          exact N2.out.ret hD.out.symm
        · go_wp2
          go_ret
          exact N2.out.ret hD.out.symm
end Go.Proofs.Ytaikpjnegopelaa
