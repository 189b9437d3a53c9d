/- Cubeset: the program's Contains; only. -/
import Derived.Test.YteemhabgliglmaaCsL
namespace Go.Proofs.Yteemhabgliglmaa
open Go.RowKit
set_option linter.unusedVariables false
theorem sc_one (w : World) (g t : Nat) (v m : Nat) (h : IsB w g t #[.int .u64 v, .int .u64 m]) (hv : B64 v) (hm : B64 m) : SC w (some ⟨g, 0, none⟩) 1 1 [(v, m)] := by
  refine ⟨rfl, fun e => by simp at e, Nat.le_refl _, fun ad e j hj => ?_, ?_⟩
  · obtain rfl : j = 0 := by omega
    cases e
    simp only [Nat.zero_mul, addr0]
    exact ⟨by rw [h.cell 0]; rfl, by rw [h.cell 1]; rfl⟩
  · intro p hp
    simp only [List.mem_singleton] at hp
    subst hp
    exact ⟨hv, hm⟩
theorem new_size (w : World) (o : Obj) : (w.alloc o).heap.size = w.heap.size + 1 := by show (w.heap.push _).size = _; simp
theorem isb_two (w : World) (o : Obj) (t : TypeId) (cs : Array Value) : IsB ((w.alloc o).alloc (.cells cs t)) (w.heap.size + 1) t cs := by
  rw [← new_size w o]; exact IsB.new _ _ _
set_option maxRecDepth 100000 in
set_option maxHeartbeats 4000000 in
theorem only_any (w : World) (v m : Nat) (hv : B64 v) (hm : B64 m) : Calls Try.prog 47 #[.agg #[.int .u64 v, .int .u64 m]] w (fun e w' => ∃ g, e = .returned (.slice (some ⟨g, 0, none⟩) 1 1) ∧ SC w' (some ⟨g, 0, none⟩) 1 1 [(v, m)] ∧ w.grownBy w' none) := by
  go_enter Try.func47, Try.ntmps47
  go_wp2
  go_ret
  exact ⟨w.heap.size + 1, rfl, sc_one _ _ _ v m (isb_two _ _ _ _) hv hm, al2 _ _ _⟩
theorem ctc_any (w : World) (v m x : Nat) (g : Nat) (hc : w.cell? ⟨g, 0, none⟩ = some (.int .u64 x)) (hv : B64 v) (hm : B64 m) (hx : B64 x) : Calls Try.prog 49 #[.agg #[.int .u64 v, .int .u64 m], .pointer (some ⟨g, 0, none⟩)] w (RetV (.bool (hasN v m x)) w) := by
  have CO := Lib.hid (fun w => contains_any w v m x hv hm hx)
  unfold RetV at CO
  have c1 : (w.alloc (Obj.cells #[Value.int IntKind.u64 ↑v, Value.int IntKind.u64 ↑m] 49)).cell? ⟨g, 0, none⟩ = some (.int .u64 x) := (gb_alloc w _ none).cell hc (by simp)
  go_enter Try.func49, Try.ntmps49
  go_wp2_with fail
  refine (CO.out _).mono ?_
  rintro e w3 ⟨rfl, g3⟩
  have G3 := Lib.hid (gb_trans (gb_alloc w _ none) g3)
  clear g3 c1
  go_wp2
  go_ret
  exact ⟨rfl, G3.out⟩
set_option maxRecDepth 100000 in
set_option maxHeartbeats 4000000 in
theorem idx_any (w : World) (a : Option Addr) (n c : Nat) (L : List (Nat × Nat)) (h : SC w a n c L) (hn : n ≤ 100000) (f : Nat) (cp : Array Value) (P : Nat × Nat → Bool)
    (hcf : ∀ (args : Array Value) (w : World), (callFunc f args).run Try.prog w = .ok (.enter f args) w)
    (hstep : ∀ v m W, B64 v → B64 m → w.grownBy W none → Calls Try.prog f (#[.agg #[.int .u64 v, .int .u64 m]] ++ cp) W (RetV (.bool (P (v, m))) W)) :
    Calls Try.prog 67 #[.slice a n c, .func (.func f) #[] cp] w (fun e w' => ∃ i : Int, e = .returned (.int .i64 i) ∧ ((L.any P = true ∧ 0 ≤ i) ∨ (L.any P = false ∧ i = -1)) ∧ w.grownBy w' none) := by
  have HH := Lib.hid h
  have HS := Lib.hid hstep
  clear h hstep
  go_enter Try.func67, Try.ntmps67
  go_wp2
  go_loopw [8] (fun i wr => ∃ j : Nat, j ≤ n ∧ i = .int .i64 j ∧ (L.take j).any P = false ∧ w.grownBy wr none) (fun i _ => n - (intOf i).toNat)
  case atStart => exact ⟨0, Nat.zero_le _, rfl, rfl, gb_refl _ _⟩
  case round =>
    obtain ⟨j, hj, rfl, ht, hg⟩ := hrel
    have HT := Lib.hid ht
    have HG := Lib.hid hg
    clear ht hg
    by_cases hlt : j < n
    · obtain ⟨ad, rfl⟩ := HH.out.some (by omega)
      have i1 : (j : Int) < n := by omega
      have i0 : (0 : Int) ≤ (j : Int) := by omega
      have hl : j < L.length := by rw [HH.out.len]; exact hlt
      obtain ⟨c0, c1⟩ := (HH.out.keep0 HG.out).cells ad rfl j hlt
      obtain ⟨b0, b1⟩ := HH.out.wfAt j hlt
      have ST := Lib.hid (show (L.take (j + 1)).any P = ((L.take j).any P || P (L.getD j (0, 0))) by rw [take_one L (0, 0) j hl]; rw [List.any_append]; simp)
      have YES := Lib.hid (show P (L.getD j (0, 0)) = true → L.any P = true from fun e => by
        rw [List.any_eq_true]
        exact ⟨L.getD j (0, 0), by rw [List.getD_eq_getElem?_getD, List.getElem?_eq_getElem hl]; exact List.getElem_mem _, e⟩)
      obtain ⟨p, hp⟩ : ∃ p, p = L.getD j (0, 0) := ⟨_, rfl⟩
      rw [← hp] at c0 c1 b0 b1 ST YES
      obtain ⟨v, m⟩ := p
      have CO := Lib.hid (HS.out v m wr b0 b1 HG.out)
      unfold RetV at CO
      clear hp b0 b1 hl
      cases hh : P (v, m)
      · rw [hh] at CO
        have S2 := Lib.hid (show (L.take (j + 1)).any P = false by rw [ST.out, HT.out, hh]; rfl)
        clear hh ST YES
        go_wp2_with fail
        refine CO.out.mono ?_
        rintro e w3 ⟨rfl, g3⟩
        have G3 := Lib.hid (gb_trans HG.out g3)
        clear g3 c0 c1
        go_wp2
        go_roundw
        case rel => exact ⟨j + 1, by omega, by go_num, S2.out, G3.out⟩
        case measure => simp [intOf]; omega
      · rw [hh] at CO
        have R2 := Lib.hid (YES.out hh)
        clear hh ST YES
        go_wp2_with fail
        refine CO.out.mono ?_
        rintro e w3 ⟨rfl, g3⟩
        have G3 := Lib.hid (gb_trans HG.out g3)
        clear g3 c0 c1
        go_wp2
        go_ret
        exact ⟨_, rfl, .inl ⟨R2.out, by omega⟩, G3.out⟩
    · have hje : j = n := by omega
      have R2 := Lib.hid (show L.any P = false by have := HT.out; rwa [List.take_of_length_le (by rw [HH.out.len]; omega)] at this)
      subst hje
      go_wp2
      go_ret
      exact ⟨_, rfl, .inr ⟨R2.out, rfl⟩, HG.out⟩
theorem cf_any (w : World) (a : Option Addr) (n c : Nat) (L : List (Nat × Nat)) (h : SC w a n c L) (hn : n ≤ 100000) (f : Nat) (cp : Array Value) (P : Nat × Nat → Bool)
    (hcf : ∀ (args : Array Value) (w : World), (callFunc f args).run Try.prog w = .ok (.enter f args) w)
    (hstep : ∀ v m W, B64 v → B64 m → w.grownBy W none → Calls Try.prog f (#[.agg #[.int .u64 v, .int .u64 m]] ++ cp) W (RetV (.bool (P (v, m))) W)) :
    Calls Try.prog 48 #[.slice a n c, .func (.func f) #[] cp] w (RetV (.bool (L.any P)) w) := by
  have IX := Lib.hid (idx_any w a n c L h hn f cp P hcf hstep)
  clear h hstep
  go_enter Try.func48, Try.ntmps48
  go_wp2_with fail
  refine IX.out.mono ?_
  rintro e w3 ⟨i, rfl, hi, g3⟩
  have G3 := Lib.hid g3
  clear g3
  rcases hi with ⟨ha, h0⟩ | ⟨ha, rfl⟩
  · have HA := Lib.hid ha
    clear ha
    go_wp2
    go_ret
    exact ⟨by rw [HA.out]; rfl, G3.out⟩
  · have HA := Lib.hid ha
    clear ha
    go_wp2
    go_ret
    exact ⟨by rw [HA.out]; rfl, G3.out⟩
theorem cont_any (w : World) (a : Option Addr) (n c : Nat) (L : List (Nat × Nat)) (x : Nat) (h : SC w a n c L) (hn : n ≤ 100000) (hx : B64 x) : Calls Try.prog 26 #[.slice a n c, .int .u64 x] w (RetV (.bool (anyN L x)) w) := by
  have CF := Lib.hid (cf_any (w.alloc (Obj.cells #[Value.int IntKind.u64 ↑x] 33)) a n c L (h.keep0 (gb_alloc w _ none)) hn 49 #[.pointer (some ⟨w.heap.size, 0, none⟩)] (fun p => hasP p x) (fun args w => by rfl)
    (fun v m W hv hm g => ctc_any W v m x w.heap.size (g.cell ((IsB.new w _ _).cell 0) (by simp)) hv hm hx))
  clear h
  go_enter Try.func26, Try.ntmps26
  go_wp2_with fail
  refine CF.out.mono ?_
  rintro e w3 ⟨rfl, g3⟩
  have G3 := Lib.hid (gb_trans (gb_alloc w _ none) g3)
  clear g3
  go_wp2
  go_ret
  exact ⟨rfl, G3.out⟩
end Go.Proofs.Yteemhabgliglmaa
