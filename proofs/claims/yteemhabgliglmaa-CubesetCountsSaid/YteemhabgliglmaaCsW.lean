/- Cubeset: the cover of simplified: add. -/
import Derived.Test.YteemhabgliglmaaCsV
namespace Go.Proofs.Yteemhabgliglmaa
open Go.RowKit
set_option linter.unusedVariables false
/-- The world is as it was. -/
def Sm (w w2 : World) : Prop := w2 = w

set_option maxRecDepth 100000 in
set_option maxHeartbeats 4000000 in
theorem uix_q (w : World) (a : Option Addr) (n c : Nat) (L : List Nat) (h : SlR w a n c (L.map u64V)) (hn : n ≤ 100000) (x : Nat) : Calls Try.prog 76 #[.slice a n c, .int .u64 x] w (fun e w' => ∃ i : Int, e = .returned (.int .i64 i) ∧ ((L.any (· == x) = true ∧ 0 ≤ i) ∨ (L.any (· == x) = false ∧ i = -1)) ∧ Sm w w') := by
  have HH := Lib.hid h
  have HL := Lib.hid (show L.length = n by have := h.1; rwa [List.length_map] at this)
  clear h
  go_enter Try.func76, Try.ntmps76
  go_wp2
  go_loopw [8] (fun i wr => ∃ j : Nat, j ≤ n ∧ i = .int .i64 j ∧ (L.take j).any (· == x) = false ∧ Sm w wr) (fun i _ => n - (intOf i).toNat)
  case atStart => exact ⟨0, Nat.zero_le _, rfl, rfl, rfl⟩
  case round =>
    obtain ⟨j, hj, rfl, ht, hg⟩ := hrel
    have HT := Lib.hid ht
    have hg2 : wr = w := hg
    subst hg2
    clear ht
    by_cases hlt : j < n
    · have hl : j < L.length := by rw [HL.out]; exact hlt
      obtain ⟨ad, rfl⟩ : ∃ ad, a = some ad := by
        cases a with
        | none => have := (HH.out.2.1 rfl).1; omega
        | some ad => exact ⟨ad, rfl⟩
      have i1 : (j : Int) < n := by omega
      have i0 : (0 : Int) ≤ (j : Int) := by omega
      have c0 := HH.out.2.2 ad rfl j (u64V (L.getD j 0)) (by rw [List.getElem?_map, List.getElem?_eq_getElem hl, List.getD_eq_getElem?_getD, List.getElem?_eq_getElem hl]; rfl)
      unfold u64V at c0
      have ST := Lib.hid (any_snoc L (· == x) j hl)
      have YES := Lib.hid (show (L.getD j 0 == x) = true → L.any (· == x) = true from fun e => by
        rw [List.any_eq_true]
        exact ⟨L.getD j 0, by rw [List.getD_eq_getElem?_getD, List.getElem?_eq_getElem hl]; exact List.getElem_mem _, e⟩)
      generalize L.getD j 0 = y at *
      clear hl
      by_cases hh : y = x
      · have R2 := Lib.hid (YES.out (by rw [hh]; simp))
        subst hh
        clear ST YES
        go_wp2
        go_ret
        exact ⟨_, rfl, .inl ⟨R2.out, by omega⟩, rfl⟩
      · have S2 := Lib.hid (show (L.take (j + 1)).any (· == x) = false by rw [ST.out, HT.out]; simpa using hh)
        have n1 : ¬ (y : Int) = x := by omega
        have n2 : ¬ (x : Int) = y := by omega
        have n3 : ((x : Int) == (y : Int)) = false := by rw [beq_eq_false_iff_ne]; exact n2
        clear ST YES
        go_wp2
        go_roundw
        case rel => exact ⟨j + 1, by omega, by go_num, S2.out, rfl⟩
        case measure => simp [intOf]; omega
    · have hje : j = n := by omega
      have R2 := Lib.hid (show L.any (· == x) = false by have := HT.out; rwa [List.take_of_length_le (by rw [HL.out]; omega)] at this)
      subst hje
      go_wp2
      go_ret
      exact ⟨_, rfl, .inr ⟨R2.out, rfl⟩, rfl⟩
theorem uct_q (w : World) (a : Option Addr) (n c : Nat) (L : List Nat) (h : SlR w a n c (L.map u64V)) (hn : n ≤ 100000) (x : Nat) : Calls Try.prog 72 #[.slice a n c, .int .u64 x] w (RetS (.bool (L.any (· == x))) w) := by
  have IX := Lib.hid (uix_q w a n c L h hn x)
  clear h
  go_enter Try.func72, Try.ntmps72
  go_wp2_with fail
  refine IX.out.mono ?_
  rintro e w3 ⟨i, rfl, hi, g3⟩
  have g4 : w3 = w := g3
  clear g3
  subst g4
  rcases hi with ⟨ha, h0⟩ | ⟨ha, rfl⟩
  · have HA := Lib.hid ha
    clear ha
    go_wp2
    go_ret
    exact ⟨by rw [HA.out]; rfl, rfl⟩
  · have HA := Lib.hid ha
    clear ha
    go_wp2
    go_ret
    exact ⟨by rw [HA.out]; rfl, rfl⟩
/-- What a call leaves alone: every row and variable but those of a cover. -/
def Ft (w w2 : World) : Prop := ∀ i cs t, IsB w i t cs → t ≠ 77 → t ≠ 33 → IsB w2 i t cs
theorem Ft.refl (w : World) : Ft w w := fun _ _ _ h _ _ => h
theorem Ft.trans {a b c : World} (h : Ft a b) (k : Ft b c) : Ft a c := fun i cs t h1 h2 h3 => k i cs t (h i cs t h1 h2 h3) h2 h3
theorem Ft.grown {a b : World} (h : a.grownBy b none) : Ft a b := fun i cs t h1 _ _ => h1.keep0 h
theorem mb_ne {w : World} {g b : Nat} {t : TypeId} {cs : Array Value} {S : List (Nat × Nat)} (h : IsB w g t cs) (k : MB w b S) : g ≠ b := by
  obtain ⟨D, n, ⟨es, clock, hb, _⟩, _⟩ := k
  intro e
  subst e
  have h' : w.heap[g]? = some (.cells cs t (0, 0)) := h
  rw [h'] at hb
  cases hb
theorem own_mb {w : World} {base b n : Nat} {e : TypeId} {V : Value} {xs : List Value} {S : List (Nat × Nat)} (h : w.ownsRow base e 1 V n xs) (k : MB w b S) : V.ownBlock ≠ some b := by
  rcases h.2 with ⟨k1, _⟩ | ⟨g', c', cur, k1, hb, hg, _⟩
  · rw [k1]; intro e; cases e
  · rw [k1]
    intro e
    have e : some g' = some b := e
    injection e with e
    exact mb_ne (show IsB w g' _ _ from hg) k e
set_option maxRecDepth 100000 in
set_option maxHeartbeats 8000000 in
theorem add_any (W w : World) (g b : Nat) (V : Value) (M : List Nat) (S : List (Nat × Nat)) (h : CV W w g V b M S) (hn : S.length ≤ 50000) (v m : Nat) (hv : B64 v) (hm : B64 m) (hS : (v, m) ∉ S) : Calls Try.prog 60 #[.pointer (some ⟨g, 0, none⟩), .agg #[.int .u64 v, .int .u64 m]] w (fun e w' => e = .returned (.tuple #[]) ∧ ∃ V' M', CV W w' g V' b M' (S ++ [(v, m)]) ∧ Ft w w') := by
  obtain ⟨a, c, rfl⟩ := own_shape h.row
  obtain ⟨W2, hW⟩ : ∃ W2, W2 = w.alloc (.cells #[.int .u64 v, .int .u64 m] 49) := ⟨_, rfl⟩
  have bw : IsB W2 w.heap.size 49 #[.int .u64 v, .int .u64 m] := by rw [hW]; exact IsB.new w _ _
  have GW := Lib.hid (show w.grownBy W2 none by rw [hW]; exact gb_alloc w _ none)
  have h2 := h.keep0 GW.out
  obtain ⟨w1, hr1, m1, g1⟩ := (h2.map.keep0 (gb_drew W2 none)).put v m hv hm (by omega) hS
  have ngb := mb_ne h2.var h2.map
  have nwb := mb_ne bw h2.map
  have v1 : IsB w1 g 77 #[.slice a M.length c, .map (some b)] := (h2.var.keep0 (gb_drew W2 none)).keep g1 (by intro e; injection e with e; exact ngb e)
  have b1 : IsB w1 w.heap.size 49 #[.int .u64 v, .int .u64 m] := (bw.keep0 (gb_drew W2 none)).keep g1 (by intro e; injection e with e; exact nwb e)
  have c0 := bw.cell 0
  have c1 := bw.cell 1
  have d0 := h2.var.cell 0
  have d1 := h2.var.cell 1
  simp at c0 c1 d0 d1
  have r1 : w1.ownsRow W.heap.size 33 1 (.slice a M.length c) M.length (M.map u64V) := by
    exact World.ownsRow.kept (own_keep0 h2.row (gb_drew W2 none)) g1 (.inr (own_mb h2.row h2.map))
  have R1 := Lib.hid r1
  have ML := Lib.hid (show M.length ≤ 100000 by have := h2.len; omega)
  have G0 := Lib.hid (show W.grownBy w1 none from gb_new (gb_trans (gb_any (gb_trans h2.grown (gb_drew W2 none))) g1) h2.lowb)
  have FT := Lib.hid (show Ft w w1 from fun i cs t hi n1 n2 => ((hi.keep0 GW.out).keep0 (gb_drew W2 none)).keep g1 (by intro e; injection e with e; exact mb_ne (hi.keep0 GW.out) h2.map e))
  clear r1
  have H2 := Lib.hid h2
  have M1 := Lib.hid m1
  have G1 := Lib.hid g1
  have V1 := Lib.hid v1
  have B1 := Lib.hid b1
  have HM := Lib.hid hm
  clear h h2 m1 g1 v1 b1 hv hm bw ngb nwb
  go_enter Try.func60, Try.ntmps60
  go_upto_region 1 with fail
  rw [← hW]
  clear hW
  go_region
  go_wp2
  clear c0 c1 d0 d1 hr1
  have c1 := B1.out.cell 1
  have d0 := V1.out.cell 0
  simp at c1 d0
  have UQ := Lib.hid (fun w3 (h3 : SlR w3 a M.length c (M.map u64V)) => uct_q w3 a M.length c M h3 ML.out m)
  have R0 := (own_slr R1.out)
  have R00 := fun k => UQ.out (w1.drewN k) (R0.keep0 (gb_drewN w1 k none))
  unfold RetS at R00
  have MY := Lib.hid (show M.any (· == m) = true → m ∈ M by rw [List.any_eq_true]; rintro ⟨x, hx, e⟩; rw [beq_iff_eq] at e; exact e ▸ hx)
  cases hy : M.any (· == m)
  · rw [hy] at R00
    have RR := Lib.hid R00
    clear R00 R0 hy MY
    go_quiet ((go_at_call 72; exact Calls.quiet_of_same (RR.out _)))
    clear RR
    go_wp2
    have X1 := gb_drewN w1 nq none
    have R2 := Lib.hid (own_keep0 R1.out X1)
    have V2 := Lib.hid (V1.out.keep0 X1)
    have M2 := Lib.hid (M1.out.keep0 X1)
    have GG := Lib.hid (gb_trans G0.out X1)
    have F2 := Lib.hid (FT.out.trans (Ft.grown X1))
    have B2 := Lib.hid (B1.out.keep0 X1)
    clear X1 c1 d0 R1 V1 M1 G0 FT UQ B1 G1
    generalize w1.drewN nq = wb at *
    have e1 := B2.out.cell 1
    have e0 := V2.out.cell 0
    simp at e0 e1
    have HA := Lib.hid (show ∀ (xs : Array Value) (ty : TypeId), wb.grownBy (wb.drew.alloc (.cells xs ty)) none from fun xs ty => gb_trans (gb_drew wb none) (gb_alloc _ _ none))
    have OA := Lib.hid (show ∀ (xs : Array Value) (ty : TypeId), (wb.drew.alloc (.cells xs ty)).ownsRow W.heap.size 33 1 (.slice a M.length c) M.length (M.map u64V) from fun xs ty => own_keep0 R2.out (HA.out xs ty))
    have VA := Lib.hid (show ∀ (xs : Array Value) (ty : TypeId) (w1 : World), (wb.drew.alloc (.cells xs ty)).grownBy w1 (Value.slice a M.length c).ownBlock → IsB w1 g 77 #[.slice a M.length c, .map (some b)] from fun xs ty w1 gr => by
      refine (V2.out.keep0 (HA.out xs ty)).keep gr ?_
      intro e
      exact own_ne (OA.out xs ty) (V2.out.keep0 (HA.out xs ty)) (by decide) e.symm)
    have SZ := Lib.hid (show ∀ (xs : Array Value) (ty : TypeId), W.heap.size ≤ (wb.drew.alloc (.cells xs ty)).heap.size from fun xs ty => (gb_trans GG.out (HA.out xs ty)).size)
    have d1 : ∀ ob, (wb.alloc ob).cell? ⟨g, 0, none⟩ = some (.slice a M.length c) := fun ob => by rw [(V2.out.alloc ob).cell 0]; rfl
    have mh := ML.out
    go_region_law (refine step_pushU rfl _ _ rfl W.heap.size _ M rfl (OA.out _ _) _ _ m rfl (one_cell _ _ _ _ rfl) (by omega) (SZ.out _ _) ?_; intro V3 w3 o3 g3 n3; obtain ⟨b3, k3, rfl⟩ := own_shape o3; have v3 : w3.cell? ⟨g, 0, none⟩ = some (.slice a M.length c) := (by rw [(VA.out _ _ _ g3).cell 0]; rfl); have f3 := (VA.out _ _ _ g3).free 0)
    all_goals (go_wp2_with fail)
    all_goals go_end0
    all_goals (
      have G3 : (wb.drew.alloc (.cells #[.int .u64 (m : Int)] 33)).grownBy w3 (Value.slice a M.length c).ownBlock := g3
      have hlen : (M ++ [m]).length = M.length + 1 := by simp
      have o4 : w3.ownsRow W.heap.size 33 1 (.slice b3 (M.length + 1) k3) (M ++ [m]).length ((M ++ [m]).map u64V) := by rw [← hlen]; exact o3
      have vv := VA.out _ _ _ G3
      have mm := (M2.out.keep0 (HA.out #[.int .u64 (m : Int)] 33)).keep G3 (fun e => own_mb (OA.out #[.int .u64 (m : Int)] 33) (M2.out.keep0 (HA.out #[.int .u64 (m : Int)] 33)) e.symm)
      refine ⟨rfl, .slice b3 (M.length + 1) k3, M ++ [m], ⟨vv.set 0 _, World.ownsRow.kept o4 (gb_set _ _ _ _) (.inr (own_ne o4 vv (by decide))), mm.keep (gb_set _ g _ _) (by intro e; injection e with e; exact mb_ne vv mm e.symm), H2.out.lowg, H2.out.lowb, gb_put (gb_own (gb_trans GG.out (HA.out #[.int .u64 (m : Int)] 33)) (OA.out #[.int .u64 (m : Int)] 33) (Nat.le_refl _) G3) H2.out.lowg, ?_, ?_, ?_⟩, ?_⟩
      · intro p hp
        rw [List.mem_append]
        rcases List.mem_append.1 hp with hp | hp
        · exact .inl (H2.out.mask p hp)
        · rw [List.mem_singleton.1 hp]; exact .inr (by simp)
      · intro x hx
        rcases List.mem_append.1 hx with hx | hx
        · exact H2.out.m64 x hx
        · rw [List.mem_singleton.1 hx]; exact HM.out
      · have := H2.out.len
        rw [List.length_append, List.length_append]; simpa using this
      · intro i cs t hi n1 n2
        have h3 := (F2.out i cs t hi n1 n2).keep0 (HA.out #[.int .u64 (m : Int)] 33)
        have h4 := h3.keep G3 (fun e => own_ne (OA.out #[.int .u64 (m : Int)] 33) h3 (Ne.symm n2) e.symm)
        exact h4.set_far (IsB.ne h4 vv n1) 0 _)
  · rw [hy] at R00
    have RR := Lib.hid R00
    have IN := Lib.hid (MY.out hy)
    clear R00 R0 hy MY
    go_quiet ((go_at_call 72; exact Calls.quiet_of_same (RR.out _)))
    clear RR
    go_wp2
    go_end0
    refine ⟨rfl, _, M, ⟨V1.out.keep0 (gb_drewN _ _ _), own_keep0 R1.out (gb_drewN _ _ _), M1.out.keep0 (gb_drewN _ _ _), H2.out.lowg, H2.out.lowb, gb_trans G0.out (gb_drewN _ _ _), ?_, H2.out.m64, ?_⟩, (FT.out).trans (Ft.grown (gb_drewN _ _ _))⟩
    · intro p hp
      rcases List.mem_append.1 hp with hp | hp
      · exact H2.out.mask p hp
      · rw [List.mem_singleton.1 hp]; exact IN.out
    · have := H2.out.len
      rw [List.length_append]; simp; omega
end Go.Proofs.Yteemhabgliglmaa
