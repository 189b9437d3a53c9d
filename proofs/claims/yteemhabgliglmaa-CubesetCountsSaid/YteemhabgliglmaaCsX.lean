/- Cubeset: byFreeBits: the numbers of places. -/
import Derived.Test.YteemhabgliglmaaCsW
import Derived.Laws.Rows
import Derived.Deep.WholeRow
import Derived.ArgAppend
namespace Go.Proofs.Yteemhabgliglmaa
open Go.RowKit
set_option linter.unusedVariables false
/-- The first m places whose cubes leave k bits free. -/
def plc (L : List (Nat × Nat)) (k m : Nat) : List Nat := (List.range m).filter fun i => frN (L.getD i (0, 0)) == k
theorem plc_succ (L : List (Nat × Nat)) (k m : Nat) : plc L k (m + 1) = plc L k m ++ (if frN (L.getD m (0, 0)) = k then [m] else []) := by
  unfold plc
  rw [List.range_succ, List.filter_append]
  congr 1
  rw [List.filter_cons, List.filter_nil]
  by_cases h : frN (L.getD m (0, 0)) = k
  · rw [if_pos h, if_pos (by rw [h]; simp)]
  · rw [if_neg h, if_neg (by rw [beq_iff_eq]; exact h)]
theorem plc_le (L : List (Nat × Nat)) (k m : Nat) : (plc L k m).length ≤ m := by
  unfold plc
  have := List.length_filter_le (fun i => frN (L.getD i (0, 0)) == k) (List.range m)
  simpa using this
theorem plc_mono (L : List (Nat × Nat)) (k m m2 : Nat) (h : m ≤ m2) : (plc L k m).length ≤ (plc L k m2).length := by
  induction m2 with
  | zero => have : m = 0 := by omega
            subst this; exact Nat.le_refl _
  | succ m2 ih =>
    by_cases e : m = m2 + 1
    · subst e; exact Nat.le_refl _
    · rw [plc_succ, List.length_append]
      have := ih (by omega)
      omega
/-- How many places of the first j each number of free bits has. -/
def szL (L : List (Nat × Nat)) (j : Nat) : List Value := (List.range 65).map fun k => .int .i64 ((plc L k j).length : Int)
theorem szL_at (L : List (Nat × Nat)) (j k : Nat) (hk : k < 65) : (szL L j).toArray[k]? = some (.int .i64 ((plc L k j).length : Int)) := by
  unfold szL
  rw [List.getElem?_toArray, List.getElem?_map, List.getElem?_range hk]
  rfl
theorem szL_step (L : List (Nat × Nat)) (j : Nat) : (szL L j).toArray.setIfInBounds (frN (L.getD j (0, 0))) (.int .i64 (((plc L (frN (L.getD j (0, 0))) j).length : Int) + 1)) = (szL L (j + 1)).toArray := by
  apply Array.ext'
  rw [Array.toList_setIfInBounds]
  apply List.ext_getElem?
  intro t
  rw [List.getElem?_set]
  unfold szL
  simp only [List.getElem?_map, List.length_map, List.length_range]
  by_cases h : frN (L.getD j (0, 0)) = t
  · rw [if_pos h]
    have := frN_le (L.getD j (0, 0))
    rw [if_pos (by omega), List.getElem?_range (by omega)]
    simp only [Option.map_some]
    rw [plc_succ, ← h]
    simp
  · rw [if_neg h]
    by_cases h2 : t < 65
    · rw [List.getElem?_range h2]
      simp only [Option.map_some]
      rw [plc_succ, if_neg h]
      simp
    · rw [List.getElem?_eq_none (by simp; omega)]; rfl
theorem szL_zero (L : List (Nat × Nat)) : (szL L 0).toArray = Try.zeroCells90 := by
  have : szL L 0 = (List.range 65).map fun _ => Value.int .i64 0 := rfl
  rw [this]
  rfl
/-- Where the places with t free bits begin. -/
def stt (L : List (Nat × Nat)) (m : Nat) : Nat → Nat
  | 0 => 0
  | t + 1 => stt L m t + (plc L t m).length
theorem stt_succ (L : List (Nat × Nat)) (m : Nat) : ∀ t, stt L (m + 1) t = stt L m t + (if frN (L.getD m (0, 0)) < t then 1 else 0) := by
  intro t
  induction t with
  | zero => rfl
  | succ t ih =>
    unfold stt
    rw [ih, plc_succ, List.length_append]
    by_cases h : frN (L.getD m (0, 0)) = t
    · rw [if_pos h, if_neg (by omega), if_pos (by omega)]; simp; omega
    · rw [if_neg h]
      by_cases h2 : frN (L.getD m (0, 0)) < t
      · rw [if_pos h2, if_pos (by omega)]; simp; omega
      · rw [if_neg h2, if_neg (by omega)]; simp
theorem stt_all (L : List (Nat × Nat)) : ∀ m, stt L m 65 = m := by
  intro m
  induction m with
  | zero =>
    have : ∀ t, stt L 0 t = 0 := by
      intro t
      induction t with
      | zero => rfl
      | succ t ih => unfold stt; rw [ih]; rfl
    exact this 65
  | succ m ih => rw [stt_succ, ih, if_pos (by have := frN_le (L.getD m (0, 0)); omega)]
theorem stt_mono (L : List (Nat × Nat)) (m t : Nat) : ∀ u, t ≤ u → stt L m t ≤ stt L m u := by
  intro u
  induction u with
  | zero => intro h; have : t = 0 := by omega
            subst this; exact Nat.le_refl _
  | succ u ih =>
    intro h
    by_cases e : t = u + 1
    · subst e; exact Nat.le_refl _
    · have := ih (by omega)
      have e2 : stt L m (u + 1) = stt L m u + (plc L u m).length := rfl
      omega
theorem stt_room (L : List (Nat × Nat)) (m t : Nat) (ht : t < 65) : stt L m t + (plc L t m).length ≤ m := by
  have := stt_mono L m (t + 1) 65 (by omega)
  rw [stt_all] at this
  exact this
/-- An array of 65 by a function. -/
def tabA (f : Nat → Value) : Array Value := ((List.range 65).map f).toArray
theorem tabA_size (f : Nat → Value) : (tabA f).size = 65 := by unfold tabA; simp
theorem tabA_at (f : Nat → Value) (k : Nat) (hk : k < 65) : (tabA f)[k]? = some (f k) := by
  unfold tabA
  rw [List.getElem?_toArray, List.getElem?_map, List.getElem?_range hk]
  rfl
theorem tabA_set (f g : Nat → Value) (k : Nat) (v : Value) (hv : g k = v) (h : ∀ t, t ≠ k → g t = f t) : (tabA f).setIfInBounds k v = tabA g := by
  apply Array.ext'
  rw [Array.toList_setIfInBounds]
  apply List.ext_getElem?
  intro t
  rw [List.getElem?_set]
  unfold tabA
  simp only [List.getElem?_map, List.length_map, List.length_range]
  by_cases e : k = t
  · subst e
    rw [if_pos rfl]
    by_cases h2 : k < 65
    · rw [if_pos h2, List.getElem?_range h2, ← hv]; rfl
    · rw [if_neg h2, List.getElem?_eq_none (by simp; omega)]; rfl
  · rw [if_neg e]
    by_cases h2 : t < 65
    · rw [List.getElem?_range h2]
      simp only [Option.map_some]
      rw [h t (by omega)]
    · rw [List.getElem?_eq_none (by simp; omega)]; rfl
/-- The pieces behind the first j cubes, of the first u numbers of free bits. -/
def pcF (L : List (Nat × Nat)) (q n j u t : Nat) : Value := if t < u then .slice (some ⟨q, if (plc L t n).length = 0 then 0 else stt L n t, none⟩) (plc L t j).length (plc L t n).length else .slice none 0 0
theorem pcF_zero (L : List (Nat × Nat)) (q n j : Nat) : tabA (pcF L q n j 0) = Try.zeroCells79 := by
  have : tabA (pcF L q n j 0) = tabA fun _ => .slice none 0 0 := by
    congr 1
  rw [this]
  rfl
theorem szL_tab (L : List (Nat × Nat)) (j : Nat) : (szL L j).toArray = tabA fun k => .int .i64 ((plc L k j).length : Int) := rfl
theorem info65 : (Try.prog.info? 90).map (·.size) = some 65 := by kernel_rfl
theorem info65s : (Try.prog.info? 79).map (·.size) = some 65 := by kernel_rfl
theorem infoInt : (Try.prog.info? 3).map (fun i => (i.zero, i.size, i.bytes)) = some (some (.int .i64 0), 1, 8) := by kernel_rfl
theorem idx65 (w : World) (cs : Array Value) (k : Nat) (hk : k < 65) (v : Int) (h : cs[k]? = some (.int .i64 v)) : (Instr.index 90 (.agg cs) (.int .i64 (k : Int))).run Try.prog w = .ok (.int .i64 v) w := by
  have hin : (0 : Int) ≤ k ∧ (k : Int) < 65 := by omega
  simp [Instr.index, run_underlying Try.underlying90, asIntOf, hin, go_sem, hk, h]
theorem getD_pre (L M : List Nat) (u : Nat) (h : u < L.length) : (L ++ M).getD u 0 = L.getD u 0 := by
  rw [List.getD_eq_getElem?_getD, List.getElem?_append_left h, ← List.getD_eq_getElem?_getD]
/-- The row behind the first i cubes. -/
def RowOK (L : List (Nat × Nat)) (n i : Nat) (cs : Array Value) : Prop := ∀ t, t < 65 → ∀ u, u < (plc L t i).length → cs[stt L n t + u]? = some (.int .i64 ((plc L t i).getD u 0 : Int))
theorem RowOK.start (L : List (Nat × Nat)) (n : Nat) (cs : Array Value) : RowOK L n 0 cs := fun t _ u hu => absurd hu (Nat.not_lt_zero u)
theorem stt_apart (L : List (Nat × Nat)) (n i t t2 u : Nat) (hi : i ≤ n) (ht : t ≠ t2) (hu : u < (plc L t i).length) (h2 : (plc L t2 i).length < (plc L t2 n).length) : stt L n t2 + (plc L t2 i).length ≠ stt L n t + u := by
  have m1 := plc_mono L t i n hi
  have e1 : stt L n (t + 1) = stt L n t + (plc L t n).length := rfl
  have e2 : stt L n (t2 + 1) = stt L n t2 + (plc L t2 n).length := rfl
  rcases Nat.lt_or_gt_of_ne ht with q | q
  · have := stt_mono L n (t + 1) t2 (by omega)
    omega
  · have := stt_mono L n (t2 + 1) t (by omega)
    omega
theorem RowOK.step (L : List (Nat × Nat)) (n i : Nat) (cs : Array Value) (h : RowOK L n i cs) (hi : i < n) (hc : cs.size = n) : RowOK L n (i + 1) (cs.setIfInBounds (stt L n (frN (L.getD i (0, 0))) + (plc L (frN (L.getD i (0, 0))) i).length) (.int .i64 (i : Int))) := by
  intro t ht u hu
  have fr := frN_le (L.getD i (0, 0))
  have rm := stt_room L n (frN (L.getD i (0, 0))) (by omega)
  have c1 : (plc L (frN (L.getD i (0, 0))) (i + 1)).length = (plc L (frN (L.getD i (0, 0))) i).length + 1 := by rw [plc_succ, if_pos rfl, List.length_append]; rfl
  have cm := plc_mono L (frN (L.getD i (0, 0))) (i + 1) n (by omega)
  rw [Array.getElem?_setIfInBounds]
  by_cases e : t = frN (L.getD i (0, 0))
  · subst e
    rw [plc_succ, if_pos rfl] at hu ⊢
    rw [List.length_append] at hu
    have hu : u < (plc L (frN (L.getD i (0, 0))) i).length + 1 := hu
    by_cases e2 : u = (plc L (frN (L.getD i (0, 0))) i).length
    · rw [if_pos (by rw [e2]), if_pos (by omega), e2]
      simp
    · rw [if_neg (by omega), h _ ht u (by omega)]
      rw [getD_pre _ _ _ (by omega)]
  · rw [plc_succ, if_neg (Ne.symm e), List.append_nil] at hu ⊢
    rw [if_neg (stt_apart L n i t _ u (by omega) e hu (by omega)), h t ht u hu]
/-- What byFreeBits returns: for each number of free bits a slice over one row. -/
def RetBF (L : List (Nat × Nat)) (w : World) (e : Ending) (w' : World) : Prop :=
  ∃ (q : Nat) (cs : Array Value) (ps : Array Value), e = .returned (.agg ps) ∧ ps.size = 65 ∧ IsB w' q 3 cs ∧ w.heap.size ≤ q ∧ w.grownBy w' none ∧
    ∀ k, k < 65 → ∃ o c, ps[k]? = some (.slice (some ⟨q, o, none⟩) (plc L k L.length).length c) ∧ ∀ j, j < (plc L k L.length).length → cs[o + j]? = some (.int .i64 ((plc L k L.length).getD j 0 : Int))
set_option maxRecDepth 100000 in
set_option maxHeartbeats 8000000 in
theorem bfb_any (w : World) (a : Option Addr) (n c : Nat) (L : List (Nat × Nat)) (h : SC w a n c L) (hn : n ≤ 100000) : Calls Try.prog 58 #[.slice a n c] w (RetBF L w) := by
  have HH := Lib.hid h
  have HL := Lib.hid h.len
  have FB := Lib.hid (fun W v m (hv : B64 v) (hm : B64 m) => free_any W v m 64 hv hm)
  obtain ⟨i0, hi, hz0, hz1, hz2⟩ := info_parts infoInt
  have HI := Lib.hid hi
  clear h hi
  go_enter Try.func58, Try.ntmps58
  go_wp2
  have Z9 := IsB.new w 79 Try.zeroCells79
  have B1 := Lib.hid ((IsB.new w 79 Try.zeroCells79).alloc (.cells Try.zeroCells90 90))
  have B2 := IsB.new (w.alloc (.cells Try.zeroCells79 79)) 90 Try.zeroCells90
  rw [← szL_zero L] at B2
  have e1 : (w.alloc (.cells Try.zeroCells79 79)).heap.size = w.heap.size + 1 := by simp
  rw [e1] at B2
  have G1 := Lib.hid (gb_trans (gb_alloc w (.cells Try.zeroCells79 79) none) (gb_alloc _ (.cells Try.zeroCells90 90) none))
  go_loopw [16] (fun i wr => ∃ j : Nat, j ≤ n ∧ i = .int .i64 j ∧ IsB wr (w.heap.size + 1) 90 (szL L j).toArray ∧ IsB wr w.heap.size 79 Try.zeroCells79 ∧ w.grownBy wr none) (fun i _ => n - (intOf i).toNat)
  case atStart => exact ⟨0, Nat.zero_le _, rfl, B2, B1.out, G1.out⟩
  case round =>
    obtain ⟨j, hj, rfl, hb, hz, hg⟩ := hrel
    have HB := Lib.hid hb
    have HZ := Lib.hid hz
    have HG := Lib.hid hg
    clear hb hz hg e1 Z9 B2
    by_cases hlt : j < n
    · obtain ⟨ad, rfl⟩ := HH.out.some (by omega)
      have i1 : (j : Int) < n := by omega
      have i0 : (0 : Int) ≤ (j : Int) := by omega
      obtain ⟨d0, d1⟩ := (HH.out.keep0 HG.out).cells ad rfl j hlt
      obtain ⟨b0, b1⟩ := HH.out.wfAt j hlt
      have SS := Lib.hid (szL_step L j)
      have fr := frN_le (L.getD j (0, 0))
      have cl := plc_le L (frN (L.getD j (0, 0))) j
      have SA := Lib.hid (szL_at L j (frN (L.getD j (0, 0))) (by omega))
      have FE : freeN (L.getD j (0, 0)).2 64 = (frN (L.getD j (0, 0)) : Int) := by
        unfold freeN frN
        have := popTo_le 64 (L.getD j (0, 0)).2
        rw [if_pos (by decide)]
        show (64 : Int) - (popTo 64 (L.getD j (0, 0)).2 : Nat) = _
        omega
      generalize frN (L.getD j (0, 0)) = f at *
      obtain ⟨q, hq⟩ : ∃ q, q = L.getD j (0, 0) := ⟨_, rfl⟩
      rw [← hq] at d0 d1 b0 b1 FE
      obtain ⟨qv, qm⟩ := q
      have FC := Lib.hid (fun W => FB.out W qv qm b0 b1)
      have FE : freeN qm 64 = (f : Int) := FE
      rw [FE] at FC
      unfold RetV at FC
      generalize hct : (plc L f j).length = ct at *
      have f0 : (0 : Int) ≤ (f : Int) := by omega
      have f1 : (f : Int) < 65 := by omega
      have ct1 : (ct : Int) + 1 ≤ 9223372036854775807 := by omega
      have GA := Lib.hid (gb_alloc wr (.cells #[.int .u64 (qv : Int), .int .u64 (qm : Int)] 49) none)
      clear hq b0 b1 FE hct
      go_wp2_with fail
      refine (FC.out _).mono ?_
      rintro e w3 ⟨rfl, g3⟩
      have G3 := Lib.hid (gb_trans GA.out g3)
      have b3 := HB.out.keep0 G3.out
      have c3 := b3.cell f
      rw [SA.out] at c3
      have f3 := b3.free f
      clear g3 d0 d1
      go_wp2
      go_roundw
      case rel => exact ⟨j + 1, by omega, by go_num, by rw [← SS.out]; exact b3.set f _, (HZ.out.keep0 G3.out).set_far (by omega) _ _, gb_put (gb_trans HG.out G3.out) (by omega)⟩
      case measure => simp [intOf]; omega
    · have hje : j = n := by omega
      subst hje
      have GR := Lib.hid (gb_trans HG.out (gb_alloc wr (.cells Try.zeroCells79 79) none))
      go_wp2_with (at_make; refine wpList_make_full _ rfl _ _ 78 rfl w.heap.size 3 i0 (.int .i64 0) 1 Try.underlying78 HI.out hz0 hz1 .i64 .i64 _ _ j rfl rfl ?c1 ?c2 ?c3 ?c4 ?c5 ?_)
      case c1 => first | rfl | omega
      case c2 => first | rfl | omega
      case c3 => first | (rw [hz2]; omega) | omega
      case c4 => unfold maxLen; omega
      case c5 => exact GR.out.size
      intro w2 hown hg2
      have P6 := (IsB.new wr 79 Try.zeroCells79).keep0 hg2
      rw [← pcF_zero L (wr.heap.size + 1) j 0] at P6
      have G2 := Lib.hid (gb_trans (gb_alloc wr (.cells Try.zeroCells79 79) none) hg2)
      have HB2 := Lib.hid (HB.out.keep0 G2.out)
      have HZ2 := Lib.hid (HZ.out.keep0 G2.out)
      have P6 := Lib.hid P6
      have HS : (szL L j).toArray.size = 65 := by rw [szL_tab]; exact tabA_size _
      obtain ⟨cs0, hcs0, hsz0⟩ : ∃ cs, IsB w2 (wr.heap.size + 1) 3 cs ∧ cs.size = j := by
        rcases hown.2 with ⟨k1, _⟩ | ⟨g', c', cur, k1, _, hgg, _, _, hcs, _⟩
        · cases k1
        · injection k1 with k1 k2 k3
          injection k1 with k1
          injection k1 with k1
          have e3 : g' = wr.heap.size + 1 := by rw [← k1] <;> (try simp)
          subst e3
          exact ⟨cur, hgg, by omega⟩
      have CS0 := Lib.hid hcs0
      have SZ0 := Lib.hid hsz0
      have GW2 := Lib.hid (gb_trans HG.out G2.out)
      clear hown hg2 hcs0 hsz0 G1 B1
      go_wp2_with (refine wpList_load_row rfl 90 _ rfl (w.heap.size + 1) rfl 90 (szL L j).toArray (0, 0) _ HB2.out Try.underlying90 rfl (by rw [HS]; exact info65) ?_)
      have hw6 : w.heap.size < wr.heap.size := HZ.out.lt
      have hw7 := HB.out.lt
      clear HB HZ HG G2 GR
      generalize wr.heap.size = P at *
      go_loopw [8, 9, 10, 31] (fun s8 s9 s10 s31 wx => ∃ k : Nat, k ≤ 65 ∧ s31 = .int .i64 k ∧ s8 = .int .i64 (stt L j k : Nat) ∧ IsB wx P 79 (tabA (pcF L (P + 1) j 0 k)) ∧ IsB wx (P + 1) 3 cs0 ∧ IsB wx w.heap.size 79 Try.zeroCells79 ∧ w.grownBy wx none) (fun _ _ _ s31 _ => 65 - (intOf s31).toNat)
      case atStart => exact ⟨0, Nat.zero_le _, rfl, rfl, P6.out, CS0.out, HZ2.out, GW2.out⟩
      case round =>
        obtain ⟨k, hk, rfl, rfl, r1, r2, r3, r4⟩ := hrel
        have R1 := Lib.hid r1
        have R2 := Lib.hid r2
        have R3 := Lib.hid r3
        have R4 := Lib.hid r4
        clear r1 r2 r3 r4
        by_cases hk65 : k < 65
        · have k1 : (k : Int) < 65 := by omega
          have k0 : (0 : Int) ≤ (k : Int) := by omega
          have sr := stt_room L j k hk65
          have SA2 := szL_at L j k hk65
          have TS := Lib.hid (show stt L j (k + 1) = stt L j k + (plc L k j).length from rfl)
          have c6 := R1.out.cell k
          rw [tabA_at _ k hk65] at c6
          have f6 := R1.out.free k
          have HX := fun w => idx65 w (szL L j).toArray k hk65 _ SA2
          generalize hs : stt L j k = st at *
          generalize hc2 : (plc L k j).length = ct at *
          go_wp2
          go_roundw
          case rel =>
            refine ⟨k + 1, by omega, by go_num, by rw [TS.out] <;> (try go_num), ?_, R2.out.set_far (by omega) _ _, R3.out.set_far (by omega) _ _, gb_put R4.out (by omega)⟩
            have q := R1.out.set k (.slice (if ct = 0 then some ⟨P + 1, 0, none⟩ else some ⟨P + 1, st, none⟩) 0 ct)
            rwa [tabA_set (pcF L (P + 1) j 0 k) (pcF L (P + 1) j 0 (k + 1)) k _ (by
              unfold pcF
              rw [if_pos (by omega), hs, hc2]
              have z0 : (plc L k 0).length = 0 := rfl
              rw [z0]
              by_cases hc0 : ct = 0
              · rw [if_pos hc0, if_pos hc0]
              · rw [if_neg hc0, if_neg hc0]) (fun t ht => by
              unfold pcF
              by_cases h2 : t < k
              · rw [if_pos h2, if_pos (by omega)]
              · rw [if_neg h2, if_neg (by omega)])] at q
          case measure => simp [intOf]; omega
        · have hke : k = 65 := by omega
          subst hke
          rw [show ((65 : Nat) : Int) = 65 from rfl]
          go_wp2
          go_loopw [11, 13, 50] (fun s11 s13 s50 wx => ∃ (i : Nat) (cs : Array Value), i ≤ j ∧ s50 = .int .i64 i ∧ IsB wx P 79 (tabA (pcF L (P + 1) j i 65)) ∧ IsB wx (P + 1) 3 cs ∧ cs.size = j ∧ RowOK L j i cs ∧ IsB wx w.heap.size 79 Try.zeroCells79 ∧ w.grownBy wx none) (fun _ _ s50 _ => j - (intOf s50).toNat)
          case atStart => exact ⟨0, cs0, Nat.zero_le _, rfl, R1.out, R2.out, SZ0.out, RowOK.start L j cs0, R3.out, R4.out⟩
          case round =>
            obtain ⟨i, cs, hij, rfl, r1, r2, r5, r6, r3, r4⟩ := hrel
            clear R1 R2 R3 R4
            have R1 := Lib.hid r1
            have R2 := Lib.hid r2
            have R3 := Lib.hid r3
            have R4 := Lib.hid r4
            have R5 := Lib.hid r5
            have R6 := Lib.hid r6
            clear r1 r2 r3 r4 r5 r6
            by_cases hlt2 : i < j
            · obtain ⟨ad, rfl⟩ := HH.out.some (by omega)
              have i1 : (i : Int) < j := by omega
              have i0' : (0 : Int) ≤ (i : Int) := by omega
              obtain ⟨d0, d1⟩ := (HH.out.keep0 R4.out).cells ad rfl i hlt2
              obtain ⟨b0, b1⟩ := HH.out.wfAt i hlt2
              have fr := frN_le (L.getD i (0, 0))
              have PS := Lib.hid (plc_succ L · i)
              have cl := stt_room L j (frN (L.getD i (0, 0))) (by omega)
              have cm := plc_mono L (frN (L.getD i (0, 0))) (i + 1) j (by omega)
              have c1 : (plc L (frN (L.getD i (0, 0))) (i + 1)).length = (plc L (frN (L.getD i (0, 0))) i).length + 1 := by rw [plc_succ, if_pos rfl, List.length_append]; rfl
              have ST := Lib.hid (RowOK.step L j i cs R6.out hlt2 R5.out)
              have TA := Lib.hid (tabA_set (pcF L (P + 1) j i 65) (pcF L (P + 1) j (i + 1) 65) (frN (L.getD i (0, 0))) (.slice (some ⟨P + 1, stt L j (frN (L.getD i (0, 0))), none⟩) ((plc L (frN (L.getD i (0, 0))) i).length + 1) (plc L (frN (L.getD i (0, 0))) j).length) (by
                unfold pcF
                rw [if_pos (by omega), if_neg (by omega), c1]) (fun t ht => by
                unfold pcF
                by_cases h2 : t < 65
                · rw [if_pos h2, if_pos h2, plc_succ, if_neg (Ne.symm ht), List.append_nil]
                · rw [if_neg h2, if_neg h2]))
              have PC := Lib.hid (tabA_at (pcF L (P + 1) j i 65) (frN (L.getD i (0, 0))) (by omega))
              have PV : pcF L (P + 1) j i 65 (frN (L.getD i (0, 0))) = .slice (some ⟨P + 1, stt L j (frN (L.getD i (0, 0))), none⟩) (plc L (frN (L.getD i (0, 0))) i).length (plc L (frN (L.getD i (0, 0))) j).length := by
                unfold pcF
                rw [if_pos (by omega), if_neg (by omega)]
              rw [PV] at PC
              have OL := Lib.hid (fun u hu => R6.out (frN (L.getD i (0, 0))) (by omega) u hu)
              have FE : freeN (L.getD i (0, 0)).2 64 = (frN (L.getD i (0, 0)) : Int) := by
                unfold freeN frN
                have := popTo_le 64 (L.getD i (0, 0)).2
                rw [if_pos (by decide)]
                show (64 : Int) - (popTo 64 (L.getD i (0, 0)).2 : Nat) = _
                omega
              clear PV PS
              generalize frN (L.getD i (0, 0)) = f at *
              obtain ⟨q, hq⟩ : ∃ q, q = L.getD i (0, 0) := ⟨_, rfl⟩
              rw [← hq] at d0 d1 b0 b1 FE
              obtain ⟨qv, qm⟩ := q
              have FC := Lib.hid (fun W => FB.out W qv qm b0 b1)
              have FE : freeN qm 64 = (f : Int) := FE
              rw [FE] at FC
              unfold RetV at FC
              generalize hct : (plc L f i).length = ct at *
              generalize hsz : (plc L f j).length = sz at *
              generalize hst : stt L j f = st at *
              rw [c1] at cm
              have f0 : (0 : Int) ≤ (f : Int) := by omega
              have f1 : (f : Int) < 65 := by omega
              have GA := Lib.hid (gb_alloc wr (.cells #[.int .u64 (qv : Int), .int .u64 (qm : Int)] 49) none)
              clear hq b0 b1 FE c1
              go_wp2_with fail
              refine (FC.out _).mono ?_
              rintro e w3 ⟨rfl, g3⟩
              have G3 := Lib.hid (gb_trans GA.out g3)
              have b3 := Lib.hid (R1.out.keep0 G3.out)
              have q3 := Lib.hid (R2.out.keep0 G3.out)
              have c3 := b3.out.cell f
              rw [PC.out] at c3
              clear g3 d0 d1
              have OLDS := Lib.hid (show ∀ (ob : Obj) (u : Nat) (x : Value), ((plc L f i).map fun (x : Nat) => Value.int .i64 (x : Int))[u]? = some x → (w3.alloc ob).cell? ⟨P + 1, st + u, none⟩ = some x from fun ob u x hx => by
                have hu : u < (plc L f i).length := by
                  have := (List.getElem?_eq_some_iff.1 hx).1
                  simpa using this
                rw [(q3.out.alloc _).cell (st + u), OL.out u (by omega)]
                rw [List.getElem?_map, List.getElem?_eq_getElem hu] at hx
                rw [List.getD_eq_getElem?_getD, List.getElem?_eq_getElem hu]
                exact hx)
              have SPARE := Lib.hid (show ∀ (ob : Obj) (u : Nat), u < 1 → ((w3.alloc ob).cell? ⟨P + 1, st + ct * 1 + u, none⟩).isSome = true ∧ (w3.alloc ob).frozen? ⟨P + 1, st + ct * 1 + u, none⟩ = false from fun ob u hu => by
                refine ⟨?_, (q3.out.alloc _).free _⟩
                rw [(q3.out.alloc _).cell _, Array.getElem?_eq_getElem (by rw [R5.out]; omega)]
                rfl)
              have W1 := Lib.hid ((q3.out.alloc (.cells #[.int .i64 (i : Int)] 3)).set (st + ct) (.int .i64 (i : Int)))
              have W2 := (b3.out.alloc (.cells #[.int .i64 (i : Int)] 3)).set_far (g2 := P + 1) (by omega) (st + ct) (.int .i64 (i : Int))
              have W3 := Lib.hid (((R3.out.keep0 G3.out).alloc (.cells #[.int .i64 (i : Int)] 3)).set_far (g2 := P + 1) (by omega) (st + ct) (.int .i64 (i : Int)))
              have W4 := Lib.hid (gb_put (i := st + ct) (u := .int .i64 (i : Int)) (gb_trans (gb_trans R4.out G3.out) (gb_alloc w3 (.cells #[.int .i64 (i : Int)] 3) none)) (show w.heap.size ≤ P + 1 by omega))
              have W2' := Lib.hid W2
              have c5 := W2.cell f
              rw [PC.out] at c5
              have f5 := W2.free f
              have c5b : ((w3.alloc (.cells #[.int .i64 (i : Int)] 3)).setCells (P + 1) (st + ct) [.int .i64 (i : Int)]).cell? ⟨P, f, none⟩ = some (.slice (some ⟨P + 1, st, none⟩) ct sz) := c5
              have f5b : ((w3.alloc (.cells #[.int .i64 (i : Int)] 3)).setCells (P + 1) (st + ct) [.int .i64 (i : Int)]).frozen? ⟨P, f, none⟩ = false := f5
              have LO := Lib.hid (show ((plc L f i).map fun (x : Nat) => Value.int .i64 (x : Int)).length = ct * 1 by rw [List.length_map, hct]; omega)
              clear W2
              go_wp2_with (at_builtin; refine wpList_append_arg _ rfl _ _ 78 rfl 3 i0 (.int .i64 0) 1 8 Try.underlying78 HI.out hz0 hz1 hz2 rfl (by decide) (P + 1) st ct sz ((plc L f i).map fun (x : Nat) => Value.int .i64 (x : Int)) rfl LO.out (OLDS.out _) _ 1 _ [.int .i64 (i : Int)] rfl rfl (one_cell _ _ _ _ rfl) (one_one _ rfl) (fun _ => SPARE.out _) (by unfold maxLen; omega) (by omega) (fun _ => ?_) (fun hh => by omega))
              go_roundw
              case rel =>
                refine ⟨i + 1, _, by omega, by go_num, ?_, W1.out.set_far (by omega) _ _, by rw [Array.size_setIfInBounds]; exact R5.out, ST.out, W3.out.set_far (by omega) _ _, gb_put W4.out (by omega)⟩
                rw [← TA.out]
                exact W2'.out.set f _
              case measure => simp [intOf]; omega
            · have hie : i = j := by omega
              subst hie
              have S1 := tabA_size (pcF L (P + 1) i i 65)
              have S2 : (Try.zeroCells79).size = 65 := rfl
              have ONE := Lib.hid (show (tabA (pcF L (P + 1) i i 65)).all (·.oneCell') = true by
                unfold tabA
                rw [← Array.all_toList, List.all_map, List.all_eq_true]
                intro t _
                show (pcF L (P + 1) i i 65 t).oneCell' = true
                unfold pcF
                split <;> rfl)
              have I1 := Lib.hid (show (Try.prog.info? 79).map (·.size) = some (tabA (pcF L (P + 1) i i 65)).size by rw [S1]; exact info65s)
              have SE := Lib.hid (show (Try.zeroCells79).size = (tabA (pcF L (P + 1) i i 65)).size by rw [S1, S2])
              clear S1 S2
              go_wp2_with (first | (refine wpList_load_row rfl 79 _ rfl P rfl 79 (tabA (pcF L (P + 1) i i 65)) (0, 0) _ R1.out Try.underlying79 rfl I1.out ?_) | (refine wpList_store_row rfl 79 _ _ rfl w.heap.size (tabA (pcF L (P + 1) i i 65)) rfl rfl 79 Try.zeroCells79 R3.out I1.out SE.out ONE.out ?_))
              have N1 : (wr.setRow w.heap.size (tabA (pcF L (P + 1) i i 65))).heap[w.heap.size]? = some (.cells (tabA (pcF L (P + 1) i i 65)) 79 (0, 0)) := setRow_heap wr _ _ _ _ _ R3.out
              have N2 : IsB (wr.setRow w.heap.size (tabA (pcF L (P + 1) i i 65))) (P + 1) 3 cs := by
                show (wr.setRow w.heap.size (tabA (pcF L (P + 1) i i 65))).heap[P + 1]? = _
                rw [setRow_other _ _ _ _ (by omega)]
                exact R2.out
              have N3 : wr.grownBy (wr.setRow w.heap.size (tabA (pcF L (P + 1) i i 65))) (some w.heap.size) := ⟨rfl, rfl, rfl, by simp, fun i _ hi => setRow_other _ _ _ _ (fun e => hi (by rw [e]))⟩
              (try simp only [Exit.inBlock, Exit.then])
              refine bodyPost_ret (v := .agg (tabA (pcF L (P + 1) i i 65))) (results_cell_row rfl _ _ w.heap.size 79 (tabA (pcF L (P + 1) i i 65)) (0, 0) _ rfl N1 Try.underlying79 rfl I1.out) rfl ?_
              refine ⟨P + 1, cs, _, rfl, tabA_size _, N2, by omega, gb_new (gb_trans (gb_any R4.out) N3) (Nat.le_refl _), fun k hk => ?_⟩
              rw [HL.out]
              refine ⟨_, _, by rw [tabA_at _ k hk]; unfold pcF; rw [if_pos hk], fun u hu => ?_⟩
              rw [if_neg (by omega)]
              exact R6.out k hk u hu
end Go.Proofs.Yteemhabgliglmaa
