/- The program's ShortestPath: the walk. -/
import Derived.Test.YtaikpjnegopelaaDgH
namespace Go.Proofs.Ytaikpjnegopelaa
open Go.RowKit
set_option linter.unusedVariables false

theorem distL_at (g : List (List Int)) (t x : Nat) (ht : t < g.length) (hx : x < g.length) : (distL g (t : Int)).getD x 0 = gD g t g.length x := by
  unfold distL
  rw [if_pos ⟨by omega, by omega⟩, Int.toNat_natCast, tab_at _ _ _ hx]
theorem left_pd (g : List (List Int)) (t : Nat) (ht : t < g.length) (goal : Int) : PD (revG g) (gD g t g.length) goal (pdist (revG g) (t : Int) goal) :=
  pdist_ok (dist_of g (revG g) t (revG_len g).symm (by rw [revG_len]; exact ht) (fun y u _ _ => gEdge_rev g y u)) goal
/-- The goal's distance is told. -/
theorem left_at (g : List (List Int)) (s : Nat) (t : Int) (hs : s < g.length) : (pdist (revG g) t (s : Int)).getD s 0 = (distL g t).getD s 0 := by
  by_cases hin : 0 ≤ t ∧ t < (g.length : Int)
  · obtain ⟨u, rfl⟩ : ∃ u : Nat, t = (u : Int) := ⟨t.toNat, by omega⟩
    have p := left_pd g u (by omega) (s : Int)
    rw [distL_at g u s (by omega) hs]
    rcases p.2.2 with q | q
    · exact q s (by rw [revG_len]; exact hs)
    · rw [Int.toNat_natCast] at q; exact q.2.2.2.1
  · unfold pdist distL
    rw [if_neg (by rw [revG_len]; exact hin), if_neg hin, revG_len]
theorem left_rank (g : List (List Int)) (s t : Nat) (hs : s < g.length) (ht : t < g.length) (x : Nat) (hx : x < g.length) (w : Int) (h0 : 0 ≤ w) (hw : w < (distL g (t : Int)).getD s 0) :
    (pdist (revG g) (t : Int) (s : Int)).getD x 0 = w ↔ (distL g (t : Int)).getD x 0 = w := by
  have p := left_pd g t ht (s : Int)
  rw [distL_at g t s ht hs] at hw
  rw [distL_at g t x ht hx]
  have hx2 : x < (revG g).length := by rw [revG_len]; exact hx
  constructor
  · intro e
    rcases p.2.1 x hx2 with q | q <;> omega
  · intro e
    rcases p.2.2 with q | q
    · rw [q x hx2]; exact e
    · rw [Int.toNat_natCast] at q
      rw [q.2.2.2.2 x hx2 (by omega) (by omega)]; exact e
theorem dist_pred (g : List (List Int)) (t : Nat) (ht : t < g.length) (k v : Nat) (hv : v < g.length) (h : (distL g (t : Int)).getD v 0 = (k : Int) + 1) : ∃ y, y < g.length ∧ okW g (distL g (t : Int)) k v y = true := by
  rw [distL_at g t v ht hv] at h
  obtain ⟨y, hy, h1, h2⟩ := gD_pred g t v k g.length h
  have hr := gD_range g t g.length v
  have h3 : gD g t g.length y = k := by
    have := gD_stay g t k y (by omega) (g.length - k)
    rw [show k + (g.length - k) = g.length by omega, h1] at this
    exact this
  refine ⟨y, hy, ?_⟩
  unfold okW
  rw [distL_at g t y ht hy, h3, h2]
  simp
theorem short_down (g : List (List Int)) (s : Nat) (t : Int) (hs : s < g.length) (k : Nat) (hk : (distL g t).getD s 0 = k) :
    desL g (pdist (revG g) t (s : Int)) ((k : Int) - 1) (s : Int) k = des g (distL g t) s ∧ ∀ i, i ≤ k → 0 ≤ desV g (pdist (revG g) t (s : Int)) ((k : Int) - 1) (s : Int) i ∧ desV g (pdist (revG g) t (s : Int)) ((k : Int) - 1) (s : Int) i < (g.length : Int) := by
  have hin : 0 ≤ t ∧ t < (g.length : Int) := by
    by_cases hin : 0 ≤ t ∧ t < (g.length : Int)
    · exact hin
    · unfold distL at hk
      rw [if_neg hin, tab_at _ _ _ hs] at hk
      omega
  obtain ⟨u, rfl⟩ : ∃ u : Nat, t = (u : Int) := ⟨t.toNat, by omega⟩
  have q := down_same g (pdist (revG g) (u : Int) (s : Int)) (distL g (u : Int)) k (fun x hx w h0 hw => left_rank g s u hs (by omega) x hx w h0 (by omega)) (fun k v hv h => dist_pred g u (by omega) k v hv h) k s hs hk (Int.le_refl _)
  refine ⟨?_, q.2⟩
  rw [q.1]
  unfold des
  rw [hk, Int.toNat_natCast]

set_option maxRecDepth 100000 in
set_option maxHeartbeats 2000000 in
theorem short_any (w : World) (a : Option Addr) (c : Nat) (g : List (List Int)) (s t : Int) (h : SlG w a g.length c g) (hn : g.length ≤ 100000) (hs : -9223372036854775808 ≤ s ∧ s ≤ 9223372036854775807) (ht : -9223372036854775808 ≤ t ∧ t ≤ 9223372036854775807) :
    Calls Try.prog 17 #[.slice a g.length c, .int .i64 s, .int .i64 t] w (RetNB w.heap.size (pathP g s t) (hasP g s t) w) := by
  have HH := Lib.hid h
  clear h
  have HT := Lib.hid ht
  clear hs ht
  have HI := Lib.hid (fun w => isNode_any w a g.length c s)
  have hpl : (pdist (revG g) t s).length = g.length := by rw [pdist_len, revG_len]
  have HD := Lib.hid (fun (w1 : World) (b : Nat) (q : SlG w1 (some ⟨b, 0, none⟩) g.length g.length (revG g)) => by
    have k := distances_any w1 (some ⟨b, 0, none⟩) g.length (revG g) (by rw [revG_len]; exact q) (by rw [revG_len]; exact hn) t s HT.out
    rw [revG_len] at k
    exact k)
  have HSD := Lib.hid (short_down g s.toNat t)
  have HLA := Lib.hid (left_at g s.toNat t)
  have HP := Lib.hid (show hasP g s t = true ↔ (0 ≤ s ∧ s < g.length ∧ 0 ≤ (distL g t).getD s.toNat 0) by unfold hasP; exact decide_eq_true_iff)
  have HPP := Lib.hid (show pathP g s t = if hasP g s t then des g (distL g t) s.toNat else [] from rfl)
  have HDR := Lib.hid (distL_range g t s.toNat)
  by_cases hin : 0 ≤ s ∧ s < (g.length : Int)
  · simp only [decide_eq_true hin] at HI
    obtain ⟨sn, rfl⟩ : ∃ sn : Nat, s = (sn : Int) := ⟨s.toNat, by omega⟩
    have hsn : sn < g.length := by omega
    have isn : (sn : Int) < g.length := by omega
    simp only [Int.toNat_natCast] at HSD HLA HP HPP HDR
    have la := HLA.out hsn
    obtain ⟨L, hL⟩ : ∃ L, L = pdist (revG g) t (sn : Int) := ⟨_, rfl⟩
    rw [← hL] at HD HSD la hpl
    obtain ⟨y, hy⟩ : ∃ y, y = (distL g t).getD sn 0 := ⟨_, rfl⟩
    rw [← hy] at la HP HDR HSD
    have hyr := HDR.out
    clear hL hy hin HLA HDR
    go_enter Try.func17, Try.ntmps17
    go_wp2_with fail
    refine (rev_any w a g.length c g HH.out hn).mono ?_
    rintro e w1 ⟨b, hb, rfl, q1, g1⟩
    have HD1 := Lib.hid (HD.out w1 b q1)
    have G1 := Lib.hid g1
    clear q1 g1 HD
    go_wp2_with fail
    refine HD1.out.mono ?_
    rintro e w2 ⟨V, rfl, o2, g2⟩
    obtain ⟨da, dc, hV⟩ := o2.shape
    rw [hpl] at hV
    subst hV
    have O2 := Lib.hid o2
    have G2 := Lib.hid (gb_trans G1.out g2)
    clear o2 g2 G1 HD1
    obtain ⟨dg, dd, hh⟩ := O2.out.headn hpl.symm (by omega)
    cases hh
    have cs := O2.out.at_ hpl.symm sn (by omega)
    rw [la] at cs
    go_wp2_with fail
    refine (HI.out _).mono ?_
    rintro e w3 ⟨rfl, rfl⟩
    by_cases hy1 : y = -1
    · have HF := Lib.hid (show hasP g (sn : Int) t = false by rw [Bool.eq_false_iff]; intro h; have := HP.out.1 h; omega)
      subst hy1
      go_wp2
      go_ret2
      rw [HPP.out, HF.out]
      exact ⟨_, rfl, NL.nil _ _, G2.out⟩
    · have d1 : (y == -1) = false := by rw [beq_eq_false_iff_ne]; exact hy1
      obtain ⟨k, rfl⟩ : ∃ k : Nat, y = (k : Int) := ⟨y.toNat, by omega⟩
      have HF := Lib.hid (show hasP g (sn : Int) t = true from HP.out.2 ⟨by omega, by omega, by omega⟩)
      have SD := HSD.out hsn k rfl
      have HDE := Lib.hid (descend_any w3 a (some ⟨dg, 0, none⟩) c dc g L (sn : Int) ((k : Int) - 1) 0 k (HH.out.keep0 G2.out) (O2.out.slr hpl.symm) hn (by omega) (by omega) (by omega) SD.2)
      rw [SD.1] at HDE
      clear SD hy1
      go_wp2_with fail
      refine HDE.out.mono ?_
      rintro e w4 ⟨V4, rfl, o4, g4⟩
      obtain ⟨a4, c4, rfl⟩ := o4.shape
      have HPQ := Lib.hid (show pathP g (sn : Int) t = des g (distL g t) sn by rw [HPP.out, HF.out]; rfl)
      have O4 := Lib.hid (own_low o4 G2.out.size)
      have G4 := Lib.hid (gb_trans G2.out g4)
      clear o4 g4 HDE cs
      go_wp2
      go_ret2
      rw [HPQ.out, HF.out]
      exact ⟨_, rfl, O4.out, G4.out⟩
  · simp only [decide_eq_false hin] at HI
    have HF := Lib.hid (show hasP g s t = false by rw [Bool.eq_false_iff]; intro h; have := HP.out.1 h; exact hin ⟨this.1, this.2.1⟩)
    obtain ⟨L, hL⟩ : ∃ L, L = pdist (revG g) t s := ⟨_, rfl⟩
    rw [← hL] at HD hpl
    clear hin hL
    go_enter Try.func17, Try.ntmps17
    go_wp2_with fail
    refine (rev_any w a g.length c g HH.out hn).mono ?_
    rintro e w1 ⟨b, hb, rfl, q1, g1⟩
    have HD1 := Lib.hid (HD.out w1 b q1)
    have G1 := Lib.hid g1
    clear q1 g1 HD
    go_wp2_with fail
    refine HD1.out.mono ?_
    rintro e w2 ⟨V, rfl, o2, g2⟩
    have G2 := Lib.hid (gb_trans G1.out g2)
    clear o2 g2 G1 HD1
    go_wp2_with fail
    refine (HI.out _).mono ?_
    rintro e w3 ⟨rfl, rfl⟩
    go_wp2
    go_ret2
    rw [HPP.out, HF.out]
    exact ⟨_, rfl, NL.nil _ _, G2.out⟩
end Go.Proofs.Ytaikpjnegopelaa
