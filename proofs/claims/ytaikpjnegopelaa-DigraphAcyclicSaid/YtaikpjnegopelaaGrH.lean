/- The walks of the reference's ShortestPath and Reachable. -/
import Derived.Test.YtaikpjnegopelaaGrG
namespace Go.Proofs.Ytaikpjnegopelaa
open Go.RowKit
set_option linter.unusedVariables false

/-- A slice of truth values that the call owns. -/
def OB (w : World) (base : Nat) (V : Value) (L : List Bool) : Prop := w.ownsRow base 4 1 V L.length (L.map Value.bool)
theorem OB.keep0 {w w2 : World} {base : Nat} {V : Value} {L : List Bool} (h : OB w base V L) (k : w.grownBy w2 none) : OB w2 base V L := own_keep0 h k
theorem OB.slr {w : World} {base c n : Nat} {a : Option Addr} {L : List Bool} (h : OB w base (.slice a n c) L) (hn : n = L.length) : SlR w a n c (L.map Value.bool) := by subst hn; exact own_slr h
theorem OB.low {w : World} {base g n c : Nat} {L : List Bool} (h : OB w base (.slice (some ⟨g, 0, none⟩) n c) L) : base ≤ g := (World.ownsRow.lt h g rfl).1
theorem OB.put {w : World} {base g n c : Nat} {L : List Bool} (h : OB w base (.slice (some ⟨g, 0, none⟩) n c) L) (hn : n = L.length) (p : Nat) (v : Bool) :
    OB (w.setCell ⟨g, p, none⟩ (.bool v)) base (.slice (some ⟨g, 0, none⟩) n c) (L.set p v) := by
  subst hn
  have k := (World.ownsRow.stored h p (.bool v)).1
  unfold OB
  rw [List.map_set, List.length_set]
  exact k
theorem OB.free {w : World} {base g n c : Nat} {L : List Bool} (h : OB w base (.slice (some ⟨g, 0, none⟩) n c) L) (hn : n = L.length) (p : Nat) : w.frozen? ⟨g, p, none⟩ = false := by
  subst hn
  obtain ⟨cs, hb⟩ := own_blk h
  exact hb.free p
theorem OB.at_ {w : World} {base g n c : Nat} {L : List Bool} (h : OB w base (.slice (some ⟨g, 0, none⟩) n c) L) (hn : n = L.length) (p : Nat) (hp : p < L.length) : w.cell? ⟨g, p, none⟩ = some (.bool (L.getD p false)) := by
  subst hn
  rw [World.ownsRow.cellAt h p (by omega)]
  simp [hp]
def OW (W : World) (base b n : Nat) (L : List Bool) (w : World) : Prop := OB w base (.slice (some ⟨b, 0, none⟩) n n) L ∧ L.length = n ∧ W.grownBy w none
theorem OW.put {W w : World} {base b n : Nat} {L : List Bool} (h : OW W base b n L w) (hb : W.heap.size ≤ base) (p : Nat) (v : Bool) : OW W base b n (L.set p v) (w.setCell ⟨b, p, none⟩ (.bool v)) :=
  ⟨h.1.put h.2.1.symm p v, by simp [h.2.1], gb_new (gb_trans (gb_any h.2.2) (gb_set w b p _)) (Nat.le_trans hb h.1.low)⟩
theorem OW.at_ {W w : World} {base b n : Nat} {L : List Bool} (h : OW W base b n L w) (p : Nat) (hp : p < n) : w.cell? ⟨b, p, none⟩ = some (.bool (L.getD p false)) := h.1.at_ h.2.1.symm p (by rw [h.2.1]; exact hp)
theorem OW.free {W w : World} {base b n : Nat} {L : List Bool} (h : OW W base b n L w) (p : Nat) : w.frozen? ⟨b, p, none⟩ = false := h.1.free h.2.1.symm p
def RetO (base : Nat) (L : List Bool) (w : World) (e : Ending) (w' : World) : Prop := ∃ V, e = .returned V ∧ OB w' base V L ∧ w.grownBy w' none
theorem OW.ret {W w : World} {base b n : Nat} {L M : List Bool} (h : OW W base b n L w) (e : L = M) : RetO base M W (.returned (.slice (some ⟨b, 0, none⟩) n n)) w := by subst e; exact ⟨_, rfl, h.1, h.2.2⟩
theorem infoBool : (Try.prog.info? 4).map (fun i => (i.zero, i.size, i.bytes)) = some (some (.bool false), 1, 1) := by kernel_rfl
def tabB (n : Nat) (f : Nat → Bool) : List Bool := (List.range n).map f
theorem tabB_len (n : Nat) (f : Nat → Bool) : (tabB n f).length = n := by simp [tabB]
theorem tabB_at (n : Nat) (f : Nat → Bool) (j : Nat) (h : j < n) : (tabB n f).getD j false = f j := by simp [tabB, h]
theorem tabB_set (n : Nat) (f : Nat → Bool) (j : Nat) (v : Bool) : (tabB n f).set j v = tabB n fun u => if u = j then v else f u := by
  apply List.ext_getElem (by simp [tabB])
  intro i h1 h2
  simp [tabB, List.getElem_set]
  by_cases e : i = j
  · rw [if_pos e, if_pos e.symm]
  · rw [if_neg e, if_neg (fun h => e h.symm)]
theorem tabB_congr {n : Nat} {f h : Nat → Bool} (e : ∀ j, j < n → f j = h j) : tabB n f = tabB n h := List.map_congr_left fun j hj => e j (List.mem_range.1 hj)
theorem tabB_const (n : Nat) (z : Bool) : tabB n (fun _ => z) = List.replicate n z := by
  apply List.ext_getElem (by simp [tabB])
  intro i h1 h2
  simp [tabB]
theorem distL_len (g : List (List Int)) (to : Int) : (distL g to).length = g.length := by unfold distL; split <;> exact tab_len _ _
theorem distL_range (g : List (List Int)) (to : Int) (u : Nat) : -1 ≤ (distL g to).getD u 0 ∧ (distL g to).getD u 0 ≤ g.length := by
  by_cases hu : u < g.length
  · unfold distL; split
    · rw [tab_at _ _ _ hu]; exact gD_range _ _ _ _
    · rw [tab_at _ _ _ hu]; omega
  · rw [List.getD_eq_getElem?_getD, List.getElem?_eq_none (by rw [distL_len]; omega)]; simp <;> omega
/-- The shortest path as the reference gives it: its truth and its elements. -/
def hasP (g : List (List Int)) (s t : Int) : Bool := decide (0 ≤ s ∧ s < g.length ∧ 0 ≤ (distL g t).getD s.toNat 0)
def pathP (g : List (List Int)) (s t : Int) : List Int := if hasP g s t then des g (distL g t) s.toNat else []
/-- The call returns a row of numbers of its own, or nil, and a truth value. -/
def RetNB (base : Nat) (L : List Int) (ok : Bool) (w : World) (e : Ending) (w' : World) : Prop := ∃ V, e = .returned (.tuple #[V, .bool ok]) ∧ NL w' base V L ∧ w.grownBy w' none

theorem ret_vb {V : Value} {a b : Bool} (h : a = b) : Ending.returned (.tuple #[V, .bool a]) = .returned (.tuple #[V, .bool b]) := by rw [h]

set_option maxRecDepth 100000 in
set_option maxHeartbeats 1000000 in
theorem rshort_any (w : World) (a : Option Addr) (n c : Nat) (g : List (List Int)) (s t : Int) (h : SlG w a n c g) (hn : n ≤ 100000) (hs : -9223372036854775808 ≤ s ∧ s ≤ 9223372036854775807) (ht : -9223372036854775808 ≤ t ∧ t ≤ 9223372036854775807) :
    Calls Try.prog 18 #[.slice a n c, .int .i64 s, .int .i64 t] w (RetNB w.heap.size (pathP g s t) (hasP g s t) w) := by
  have HH := Lib.hid h
  have hl := h.1
  subst hl
  clear h
  have HT := Lib.hid ht
  obtain ⟨hs1, hs2⟩ := hs
  clear ht
  go_enter Try.func18, Try.ntmps18
  go_wp2_with fail
  refine (rdist_any _ _ _ _ g t HH.out hn HT.out).mono ?_
  rintro e w1 ⟨V, rfl, q1, q2⟩
  have hsz := q2.size
  obtain ⟨b, d, rfl⟩ := q1.shape
  rw [distL_len] at q1
  have N1 := Lib.hid q1
  have G1 := Lib.hid q2
  have HH1 := Lib.hid (HH.out.keep0 q2)
  rw [distL_len]
  have HD := Lib.hid (NL.slr q1 (distL_len g t).symm)
  clear q1 q2
  by_cases hin : 0 ≤ s ∧ s < g.length
  · obtain ⟨u, rfl⟩ : ∃ u : Nat, s = (u : Int) := ⟨s.toNat, by omega⟩
    have hu : u < g.length := by omega
    have i1 : (u : Int) < g.length := by omega
    have hr := distL_range g t u
    have HPQ := Lib.hid (show hasP g u t = decide (0 ≤ (distL g t).getD u 0) ∧ pathP g u t = if 0 ≤ (distL g t).getD u 0 then des g (distL g t) u else [] by
      unfold pathP
      have e : hasP g u t = decide (0 ≤ (distL g t).getD u 0) := by
        unfold hasP; rw [decide_eq_decide, Int.toNat_natCast]; exact ⟨fun k => k.2.2, fun k => ⟨hin.1, hin.2, k⟩⟩
      rw [e]; simp)
    cases b with
    | none => exact absurd (HD.out.2.1 rfl).1 (by omega)
    | some bd =>
      have c1 := HD.out.cellAt u (by rw [distL_len]; exact hu)
      have d1 : decide ((u : Int) < 0) = false := decide_eq_false (by omega)
      have d2 : decide (g.length ≤ u) = false := decide_eq_false (by omega)
      by_cases hz : (distL g t).getD u 0 < 0
      · have HP := Lib.hid HPQ.out
        rw [decide_eq_false (by omega), if_neg (by omega)] at HP
        generalize (distL g t).getD u 0 = z at *
        go_wp2
        go_ret2
        exact ⟨_, ret_vb HP.out.1.symm, by rw [HP.out.2]; exact NL.nil _ _, G1.out⟩
      · have HP := Lib.hid HPQ.out
        rw [decide_eq_true (by omega), if_pos (by omega)] at HP
        have HB := Lib.hid (show (distL g t).getD u 0 ≤ 400000 ∧ -9223372036854775808 ≤ (distL g t).getD u 0 by omega)
        obtain ⟨z, hzz⟩ : ∃ z, z = (distL g t).getD u 0 := ⟨_, rfl⟩
        rw [← hzz] at c1 hz
        clear hzz
        go_wp2_with fail
        refine (rdes_any _ _ _ _ _ _ _ g (distL g t) u HH1.out HD.out hn hu rfl HB.out.1 HB.out.2).mono ?_
        rintro e w3 ⟨V3, rfl, q1, q2⟩
        obtain ⟨b3, d3, rfl⟩ := q1.shape
        have N3 := Lib.hid q1
        have G3 := Lib.hid q2
        clear q1 q2
        go_wp2
        go_ret2
        exact ⟨_, ret_vb HP.out.1.symm, by rw [HP.out.2]; exact own_low N3.out hsz, gb_trans G1.out G3.out⟩
  · have HPQ := Lib.hid (show hasP g s t = false ∧ pathP g s t = [] by
      have e : hasP g s t = false := by unfold hasP; rw [decide_eq_false_iff_not]; exact fun k => hin ⟨k.1, k.2.1⟩
      refine ⟨e, ?_⟩
      unfold pathP; rw [e]; rfl)
    by_cases h1 : 0 ≤ s
    · have h2 : ¬ s < g.length := fun k => hin ⟨h1, k⟩
      go_wp2
      go_ret2
      exact ⟨_, ret_vb HPQ.out.1.symm, by rw [HPQ.out.2]; exact NL.nil _ _, G1.out⟩
    · go_wp2
      go_ret2
      exact ⟨_, ret_vb HPQ.out.1.symm, by rw [HPQ.out.2]; exact NL.nil _ _, G1.out⟩

theorem distL_lenR (g : List (List Int)) (s : Int) : (distL (revG g) s).length = g.length := by rw [distL_len]; simp [revG]
/-- The nodes that are reachable, as the reference gives them. -/
def reachL (g : List (List Int)) (s : Int) : List Bool := tabB g.length fun u => decide (0 ≤ (distL (revG g) s).getD u 0)

set_option maxRecDepth 100000 in
set_option maxHeartbeats 1000000 in
theorem rreach_any (w : World) (a : Option Addr) (n c : Nat) (g : List (List Int)) (s : Int) (h : SlG w a n c g) (hn : n ≤ 100000) (hs : -9223372036854775808 ≤ s ∧ s ≤ 9223372036854775807) :
    Calls Try.prog 16 #[.slice a n c, .int .i64 s] w (RetO w.heap.size (reachL g s) w) := by
  obtain ⟨i0, hi, hz0, hz1, hz2⟩ := info_parts infoBool
  have HI := Lib.hid hi
  have HH := Lib.hid h
  have hl := h.1
  subst hl
  have HT := Lib.hid hs
  clear h hi hs
  go_enter Try.func16, Try.ntmps16
  go_wp2_with fail
  refine (rrev_any _ _ _ _ g HH.out hn).mono ?_
  rintro e w1 ⟨b0, hb0, rfl, q1, q2⟩
  have R1 := Lib.hid q1
  have G1 := Lib.hid q2
  have hs1 := q2.size
  clear q1 q2 hb0
  go_wp2_with fail
  refine (rdist_any _ _ _ _ (revG g) s R1.out hn HT.out).mono ?_
  rintro e w2 ⟨V, rfl, q1, q2⟩
  obtain ⟨b, d, rfl⟩ := q1.shape
  rw [distL_lenR] at q1
  rw [distL_lenR]
  have hs2 := q2.size
  have HD := Lib.hid (NL.slr q1 (distL_lenR g s).symm)
  have G2 := Lib.hid (gb_trans G1.out q2)
  clear q1 q2 G1 R1
  go_wp2_with (at_make; refine wpList_make_full _ rfl _ _ 28 rfl w2.heap.size 4 i0 (.bool false) 1 Try.underlying28 HI.out hz0 hz1 .i64 .i64 _ _ g.length rfl rfl ?c1 ?c2 ?c3 ?c4 ?c5 ?_)
  case c1 => first | rfl | omega
  case c2 => first | rfl | omega
  case c3 => rw [hz2]; omega
  case c4 => unfold maxLen; omega
  case c5 => simp
  intro w3 hown hg
  have N1 := Lib.hid (show OW w w2.heap.size w2.heap.size g.length (tabB g.length fun u => if u < 0 then decide (0 ≤ (distL (revG g) s).getD u 0) else false) w3 by
    refine ⟨?_, tabB_len _ _, gb_trans G2.out hg⟩
    unfold OB
    rw [tabB_len, show (tabB g.length fun u => if u < 0 then decide (0 ≤ (distL (revG g) s).getD u 0) else false) = tabB g.length (fun _ => false) from tabB_congr fun j _ => by rw [if_neg (Nat.not_lt_zero _)], tabB_const, List.map_replicate, ← made_zero]
    first | exact hown | simpa using hown)
  have HD3 := Lib.hid (HD.out.keep0 hg)
  have SZ := Lib.hid (show w.heap.size ≤ w2.heap.size by omega)
  have HDL := Lib.hid (IsB.lt (w := w3) (g := w2.heap.size) (own_blk hown).choose_spec)
  have B3 := Lib.hid (show ∀ bd, b = some bd → bd.block < w2.heap.size ∨ g.length = 0 from fun bd e => by
    by_cases h0 : g.length = 0
    · exact .inr h0
    · subst e
      exact .inl (World.block_lt_of_cell? w2 _ (HD.out.cellAt 0 (by rw [distL_lenR]; omega))))
  clear hown hg HD
  go_wp2_with fail
  go_loopw [7] (fun i wr => ∃ k : Nat, k ≤ g.length ∧ i = .int .i64 k ∧ OW w w2.heap.size w2.heap.size g.length (tabB g.length fun u => if u < k then decide (0 ≤ (distL (revG g) s).getD u 0) else false) wr ∧ SlR wr b g.length d ((distL (revG g) s).map (Value.int .i64))) (fun i _ => g.length - (intOf i).toNat)
  case atStart => exact ⟨0, Nat.zero_le _, rfl, N1.out, HD3.out⟩
  case round =>
    obtain ⟨k, hk, rfl, q1, q2⟩ := hrel
    clear N1 HD3
    have N1 := Lib.hid q1
    have HD3 := Lib.hid q2
    clear q1 q2
    by_cases hlt : k < g.length
    · cases b with
      | none => exact absurd (HD3.out.2.1 rfl).1 (by omega)
      | some bd =>
        have c1 := HD3.out.cellAt k (by rw [distL_lenR]; exact hlt)
        have c2 := N1.out.at_ k hlt
        have f1 := N1.out.free k
        have NX := Lib.hid (show OW w w2.heap.size w2.heap.size g.length (tabB g.length fun u => if u < k + 1 then decide (0 ≤ (distL (revG g) s).getD u 0) else false) (wr.setCell ⟨w2.heap.size, k, none⟩ (.bool (decide (0 ≤ (distL (revG g) s).getD k 0)))) by
          have q := N1.out.put SZ.out k (decide (0 ≤ (distL (revG g) s).getD k 0))
          rw [tabB_set] at q
          have e : (tabB g.length fun u => if u = k then decide (0 ≤ (distL (revG g) s).getD k 0) else if u < k then decide (0 ≤ (distL (revG g) s).getD u 0) else false) = tabB g.length fun u => if u < k + 1 then decide (0 ≤ (distL (revG g) s).getD u 0) else false := tabB_congr fun j _ => by
            by_cases e1 : j = k
            · subst e1; rw [if_pos rfl, if_pos (by omega)]
            · by_cases e2 : j < k
              · rw [if_neg e1, if_pos e2, if_pos (by omega)]
              · rw [if_neg e1, if_neg e2, if_neg (by omega)]
          rw [e] at q
          exact q)
        have DX := Lib.hid (show SlR (wr.setCell ⟨w2.heap.size, k, none⟩ (.bool (decide (0 ≤ (distL (revG g) s).getD k 0)))) (some bd) g.length d ((distL (revG g) s).map (Value.int .i64)) from
          ⟨HD3.out.1, HD3.out.2.1, fun ad e j u hu => by
            have hc := HD3.out.2.2 ad e j u hu
            refine (gb_set wr w2.heap.size k _).cell hc ?_
            have hb : ad.block < w2.heap.size := by
              rcases B3.out ad e with q | q
              · exact q
              · omega
            have hab : (ad.add j).block = ad.block := by unfold Addr.add; split <;> rfl
            simp
            omega⟩)
        have i1 : (k : Int) < g.length := by omega
        have hdw := Lib.hid (rfl : decide (0 ≤ (distL (revG g) s).getD k 0) = decide (0 ≤ (distL (revG g) s).getD k 0))
        obtain ⟨z, hz⟩ : ∃ z, z = (distL (revG g) s).getD k 0 := ⟨_, rfl⟩
        rw [← hz] at c1 NX DX
        clear hz hdw
        go_wp2
        go_roundw
        case rel => exact ⟨k + 1, by omega, by go_num, NX.out, DX.out⟩
        case measure => simp [intOf]; omega
    · have hke : k = g.length := by omega
      subst hke
      go_wp2
      go_ret
      have e : (tabB g.length fun u => if u < g.length then decide (0 ≤ (distL (revG g) s).getD u 0) else false) = reachL g s := tabB_congr fun j hj => by rw [if_pos hj]
      obtain ⟨V, h1, h2, h3⟩ := N1.out.ret e
      exact ⟨V, h1, own_low h2 SZ.out, h3⟩
end Go.Proofs.Ytaikpjnegopelaa
