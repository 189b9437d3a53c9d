/- Cubeset: the law Counts. -/
import Derived.Test.YteemhabgliglmaaCtP
import Derived.Test.YteemhabgliglmaaCtN
import Derived.Test.YteemhabgliglmaaCsL
namespace Go.Proofs.Yteemhabgliglmaa
open Go.RowKit
set_option linter.unusedVariables false
def lowP (k : Nat) (p : Nat × Nat) : Nat × Nat := (p.1 &&& lowN k, p.2 &&& lowN k)
theorem has_lowP (k : Nat) (p : Nat × Nat) (x : Nat) : hasP (lowP k p) x = hasN p.1 (p.2 &&& lowN k) x := by
  have e : hasP (lowP k p) x = true ↔ Has (p.1 &&& lowN k) (p.2 &&& lowN k) x := hasN_iff _ _ _
  rw [Bool.eq_iff_iff, e, hasN_iff]
  unfold Has
  refine forall_congr' fun i => ?_
  constructor
  · intro h hi
    have := h hi
    rw [Nat.testBit_and] at hi this
    rw [Bool.and_eq_true] at hi
    rwa [hi.2, Bool.and_true] at this
  · intro h hi
    have := h hi
    rw [Nat.testBit_and] at hi ⊢
    rw [Bool.and_eq_true] at hi
    rwa [hi.2, Bool.and_true]
theorem any_lowP (k : Nat) (L : List (Nat × Nat)) (x : Nat) : anyN (L.map (lowP k)) x = rstN k L x := by
  unfold anyN rstN
  rw [List.any_map]
  congr 1
  funext p
  exact has_lowP k p x
theorem lowP_wf (k : Nat) (L : List (Nat × Nat)) (h : Wf L) : Wf (L.map (lowP k)) := by
  intro p hp
  obtain ⟨q, hq, rfl⟩ := List.mem_map.1 hp
  exact ⟨Nat.lt_of_le_of_lt Nat.and_le_left (h q hq).1, Nat.lt_of_le_of_lt Nat.and_le_left (h q hq).2⟩
/-- How many of the numbers from j on, with those that are left; and the least of them. -/
def FirstOf (f : Nat → Bool) (N j r : Nat) : Prop := (∀ x, j ≤ x → x < N → f x = true → r ≤ x) ∧ ((∃ x, j ≤ x ∧ x < N ∧ f x = true) → f r = true ∧ j ≤ r ∧ r < N)
theorem first_start (f : Nat → Bool) (N r : Nat) : FirstOf f N N r := ⟨fun x h1 h2 => by omega, fun ⟨x, h1, h2, _⟩ => by omega⟩
theorem first_yes {f : Nat → Bool} {N j : Nat} (hj : j < N) (hf : f j = true) : FirstOf f N j j := ⟨fun x h1 _ _ => h1, fun _ => ⟨hf, Nat.le_refl _, hj⟩⟩
theorem first_no {f : Nat → Bool} {N j r : Nat} (h : FirstOf f N (j + 1) r) (hf : f j = false) : FirstOf f N j r := by
  have ne : ∀ x, j ≤ x → f x = true → j + 1 ≤ x := fun x h1 h2 => by
    rcases (show x = j ∨ j + 1 ≤ x by omega) with rfl | g
    · rw [hf] at h2; cases h2
    · exact g
  refine ⟨fun x h1 h2 h3 => h.1 x (ne x h1 h3) h2 h3, ?_⟩
  rintro ⟨x, h1, h2, h3⟩
  obtain ⟨a, b, c⟩ := h.2 ⟨x, ne x h1 h3, h2, h3⟩
  exact ⟨a, by omega, c⟩
theorem minI_le (L : List (Nat × Nat)) : ∀ j i, i ≤ j → minI L j ≤ minN (L.getD i (0, 0)).1 (L.getD i (0, 0)).2 := by
  intro j
  induction j with
  | zero => intro i hi; rw [show i = 0 by omega]; exact Nat.le_refl _
  | succ j ih =>
    intro i hi
    unfold minI
    rcases (show i ≤ j ∨ i = j + 1 by omega) with h | rfl
    · exact Nat.le_trans (Nat.min_le_left _ _) (ih i h)
    · exact Nat.min_le_right _ _
theorem minI_is (L : List (Nat × Nat)) : ∀ j, ∃ i, i ≤ j ∧ minI L j = minN (L.getD i (0, 0)).1 (L.getD i (0, 0)).2 := by
  intro j
  induction j with
  | zero => exact ⟨0, Nat.le_refl _, rfl⟩
  | succ j ih =>
    obtain ⟨i, hi, e⟩ := ih
    unfold minI
    rcases Nat.le_total (minI L j) (minN (L.getD (j + 1) (0, 0)).1 (L.getD (j + 1) (0, 0)).2) with h | h
    · exact ⟨i, by omega, by rw [Nat.min_eq_left h]; exact e⟩
    · exact ⟨j + 1, Nat.le_refl _, Nat.min_eq_right h⟩
theorem has_min (v m x : Nat) (h : Has v m x) : minN v m ≤ x := by
  have e : v &&& m = x &&& m := by
    apply Nat.eq_of_testBit_eq
    intro i
    rw [Nat.testBit_and, Nat.testBit_and]
    cases hm : m.testBit i with
    | false => simp
    | true => rw [h i hm]
  show v &&& m ≤ x
  rw [e]; exact Nat.and_le_left
theorem min_has (v m : Nat) : Has v m (minN v m) := by
  intro i hi
  show v.testBit i = (v &&& m).testBit i
  rw [Nat.testBit_and, hi, Bool.and_true]
/-- The least member is what the search from above comes to. -/
theorem min_first {k : Nat} (hk : k ≤ 64) (L : List (Nat × Nat)) (hn : 0 < L.length) (r : Nat) (h : FirstOf (rstN k L) (2 ^ k) 0 r) : minI (L.map (lowP k)) (L.length - 1) = r := by
  obtain ⟨i, hi, e⟩ := minI_is (L.map (lowP k)) (L.length - 1)
  have hil : i < L.length := by omega
  have gi : ∀ t (ht : t < L.length), (L.map (lowP k)).getD t (0, 0) = lowP k L[t] := fun t ht => by
    rw [List.getD_eq_getElem?_getD, List.getElem?_map, List.getElem?_eq_getElem ht]; rfl
  obtain ⟨mm, hmm⟩ : ∃ mm, mm = minI (L.map (lowP k)) (L.length - 1) := ⟨_, rfl⟩
  rw [← hmm] at e ⊢
  rw [gi i hil] at e
  have fm : rstN k L mm = true := by
    rw [← any_lowP, any_iff]
    refine ⟨lowP k L[i], List.mem_map.2 ⟨L[i], List.getElem_mem _, rfl⟩, ?_⟩
    rw [e]; exact min_has _ _
  have lm : mm < 2 ^ k := by
    rw [e]
    have : minN (lowP k L[i]).1 (lowP k L[i]).2 ≤ lowN k := Nat.le_trans Nat.and_le_right Nat.and_le_right
    have := Nat.two_pow_pos k
    unfold lowN at *
    omega
  obtain ⟨fr, _, lr⟩ := h.2 ⟨mm, Nat.zero_le _, lm, fm⟩
  have h1 := h.1 mm (Nat.zero_le _) lm fm
  have h2 : mm ≤ r := by
    rw [← any_lowP, any_iff] at fr
    obtain ⟨p, hp, hx⟩ := fr
    obtain ⟨t, ht, rfl⟩ := List.mem_iff_getElem.1 hp
    have ht' : t < L.length := by rwa [List.length_map] at ht
    have := minI_le (L.map (lowP k)) (L.length - 1) t (by omega)
    rw [← hmm, gi t ht'] at this
    have e2 : (L.map (lowP k))[t] = lowP k L[t] := by rw [List.getElem_map]
    rw [e2] at hx
    exact Nat.le_trans this (has_min _ _ _ hx)
  omega
theorem num_step (f : Nat → Bool) (j : Nat) : (List.range (j + 1)).countP f = (List.range j).countP f + (if f j = true then 1 else 0) := by
  rw [List.range_succ, List.countP_append, List.countP_cons, List.countP_nil, Nat.zero_add]
set_option maxRecDepth 100000 in
set_option maxHeartbeats 20000000 in
theorem counts_walk (w : World) (a : Option Addr) (n c : Nat) (L : List (Nat × Nat)) (wd : Nat) (hwd : wd ≤ 255) (h : SC w a n c L) : Calls Try.prog 6 #[.slice a n c, .int .u8 wd] w (RetV (.bool true) w) := by
  have HA := Lib.hid h
  have HL := Lib.hid h.len
  have WA := Lib.hid h.wf
  have WK := Lib.hid (fun w => works_any w)
  unfold RetV at WK
  clear h
  obtain ⟨k, hk⟩ : ∃ k : Nat, k = 1 + wd % 9 := ⟨_, rfl⟩
  have hk1 : 1 ≤ k := by omega
  have hk2 : k ≤ 9 := by omega
  have ek : 1 + (wd : Int) % 9 = (k : Int) := by omega
  have KE := Lib.hid ek
  have K1 := Lib.hid hk1
  have K2 := Lib.hid hk2
  have LW := Lib.hid (fun (w : World) m (hm : B64 m) => low_any w m k hm hk1 (by omega))
  clear hk hk1 hk2 ek
  go_enter Try.func6, Try.ntmps6
  by_cases hn : n ≤ 10
  case neg =>
    have hn2 : (10 : Int) < (n : Int) := by omega
    clear hn
    go_wp2_with fail
    refine (WK.out _).mono ?_
    rintro e v99 ⟨rfl, g99⟩
    have G99 := Lib.hid g99
    clear g99
    go_wp2
    go_ret
    exact ⟨rfl, G99.out⟩
  have N1 := Lib.hid hn
  have hn2 : ¬ (10 : Int) < (n : Int) := by omega
  clear hn
  go_upto_region 4 with fail
  rw [KE.out]
  clear KE hn2
  go_wp2
  go_loopw [6, 7] (fun o s wr => ∃ (j : Nat) (V : List (Nat × Nat)), j ≤ n ∧ s = .int .i64 j ∧ V = (L.take j).map (lowP k) ∧ CLs wr w.heap.size o V ∧ w.grownBy wr none) (fun _ s _ => n - (intOf s).toNat)
  case atStart => exact ⟨0, [], Nat.zero_le _, rfl, rfl, CLs.nil _ _, gb_refl _ _⟩
  case round =>
    obtain ⟨j, V, hj, rfl, hV, ho, hg⟩ := hrel
    obtain ⟨va, vc, rfl⟩ := ho.shape
    have n10 := N1.out
    have hvl : V.length ≤ 10000 := by rw [hV, List.length_map, List.length_take]; have := N1.out; omega
    have HV := Lib.hid hV
    have HO := Lib.hid ho
    have HG := Lib.hid hg
    clear hV ho hg
    by_cases hlt : j < n
    · have i1 : (j : Int) < n := by omega
      have i0 : (0 : Int) ≤ (j : Int) := by omega
      obtain ⟨ad, rfl⟩ := HA.out.some (by omega)
      have CJ := Lib.hid (fun (w2 : World) (g : w.grownBy w2 none) => (HA.out.keep0 g).cells ad rfl j hlt)
      obtain ⟨b0, b1⟩ := HA.out.wfAt j hlt
      have TK := Lib.hid (show (L.take (j + 1)).map (lowP k) = (L.take j).map (lowP k) ++ [lowP k (L.getD j (0, 0))] by rw [take_one L (0, 0) j (by rw [HL.out]; exact hlt), List.map_append]; rfl)
      obtain ⟨p, hp⟩ : ∃ p, p = L.getD j (0, 0) := ⟨_, rfl⟩
      rw [← hp] at CJ b0 b1 TK
      obtain ⟨v, m2⟩ := p
      have LW1 := Lib.hid (fun w => LW.out w v b0)
      have LW2 := Lib.hid (fun w => LW.out w m2 b1)
      unfold RetS at LW1 LW2
      have V2 := Lib.hid (show V ++ [(v &&& lowN k, m2 &&& lowN k)] = (L.take (j + 1)).map (lowP k) by rw [TK.out, HV.out]; rfl)
      generalize v &&& lowN k = x1 at *
      generalize m2 &&& lowN k = x2 at *
      clear hp b0 b1 TK
      go_upto_region 7 with fail
      · skip
        have KS := Lib.hid (fun (w' : World) (g : w.grownBy w' none) => (⟨(CJ.out w' g).1, (CJ.out w' g).2, g⟩ : (fun w' : World => w'.cell? (ad.add (j * 2)) = some (.int .u64 (v : Int)) ∧ w'.cell? ⟨(ad.add (j * 2)).block, (ad.add (j * 2)).off + 1, none⟩ = some (.int .u64 (m2 : Int)) ∧ w.grownBy w' none) w'))
        refine wp_region_held_drew (S := (fun w' : World => w'.cell? (ad.add (j * 2)) = some (.int .u64 (v : Int)) ∧ w'.cell? ⟨(ad.add (j * 2)).block, (ad.add (j * 2)).off + 1, none⟩ = some (.int .u64 (m2 : Int)) ∧ w.grownBy w' none)) (by kernel_rfl) (KS.out _ (gb_trans HG.out (gb_drew wr none))) (fun hH0 => ?_)
        refine wpAnyH_take (i := 0) (v := ?v1) rfl (by kernel_rfl) (by kernel_rfl) (by kernel_rfl) (fun _ _ _ h => h) (Or.inl ⟨by rfl, ?hy1⟩) (by assumption) ?rest1
        case hy1 => (intro wz hSw; (try dsimp only at hSw); first | (go_simp; done) | (go_simp; with_reducible rfl))
        try simp only [Act.put, List.getElem_toArray, List.getElem_cons_zero, List.setIfInBounds_toArray, List.set_cons_zero, List.set_cons_succ]
        refine wpAnyH_take (i := 1) (v := ?v2) rfl (by kernel_rfl) (by kernel_rfl) (by kernel_rfl) (fun _ _ _ h => h) (Or.inl ⟨by rfl, ?hy2⟩) (by assumption) ?rest2
        case hy2 => (intro wz hSw; (try dsimp only at hSw); first | (go_simp; done) | (go_simp; with_reducible rfl))
        try simp only [Act.put, List.getElem_toArray, List.getElem_cons_succ, List.getElem_cons_zero, List.setIfInBounds_toArray, List.set_cons_zero, List.set_cons_succ]
        refine wpAnyH_take (i := 2) (v := ?v3) rfl (by kernel_rfl) (by kernel_rfl) (by kernel_rfl) (fun _ _ _ h => h) (Or.inl ⟨by rfl, ?hy3⟩) (by assumption) ?rest3
        case hy3 => (intro wz hSw; (try dsimp only at hSw); first | (go_simp; done) | (go_simp; with_reducible rfl))
        try simp only [Act.put, List.getElem_toArray, List.getElem_cons_succ, List.getElem_cons_zero, List.setIfInBounds_toArray, List.set_cons_zero, List.set_cons_succ]
        refine wpAnyH_take (i := 3) (v := ?v4) rfl (by kernel_rfl) (by kernel_rfl) (by kernel_rfl) (fun _ _ _ h => h) (Or.inl ⟨by rfl, ?hy4⟩) (by assumption) ?rest4
        case hy4 => (intro wz hSw; (try dsimp only at hSw); first | (go_simp; done) | (go_simp; with_reducible rfl))
        try simp only [Act.put, List.getElem_toArray, List.getElem_cons_succ, List.getElem_cons_zero, List.setIfInBounds_toArray, List.set_cons_zero, List.set_cons_succ]
        refine wpAnyH_take (i := 4) (v := ?v5) rfl (by kernel_rfl) (by kernel_rfl) (by kernel_rfl) (fun _ _ _ h => h) (Or.inl ⟨by rfl, ?hy5⟩) (by assumption) ?rest5
        case hy5 => (intro wz hSw; (try dsimp only at hSw); first | (go_simp; done) | (go_simp; with_reducible rfl))
        try simp only [Act.put, List.getElem_toArray, List.getElem_cons_succ, List.getElem_cons_zero, List.setIfInBounds_toArray, List.set_cons_zero, List.set_cons_succ]
        refine wpAnyH_take (i := 5) (v := ?v6) rfl (by kernel_rfl) (by kernel_rfl) (by kernel_rfl) (fun _ _ _ h => h) (Or.inl ⟨by rfl, ?hy6⟩) (by assumption) ?rest6
        case hy6 => (intro wz hSw; (try dsimp only at hSw); first | (go_simp; done) | (go_simp; with_reducible rfl))
        try simp only [Act.put, List.getElem_toArray, List.getElem_cons_succ, List.getElem_cons_zero, List.setIfInBounds_toArray, List.set_cons_zero, List.set_cons_succ]
        refine wpAnyH_take (i := 6) (v := ?v7) rfl (by kernel_rfl) (by kernel_rfl) (by kernel_rfl) (fun _ _ _ h => h) (Or.inl ⟨by rfl, ?hy7⟩) (by assumption) ?rest7
        case hy7 => (intro wz hSw; (try dsimp only at hSw); first | (go_simp; done) | (go_simp; with_reducible rfl))
        try simp only [Act.put, List.getElem_toArray, List.getElem_cons_succ, List.getElem_cons_zero, List.setIfInBounds_toArray, List.set_cons_zero, List.set_cons_succ]
        refine wpAnyH_take (i := 8) (v := ?v8) rfl (by kernel_rfl) (by kernel_rfl) (by kernel_rfl) (fun _ _ _ h => h) (Or.inl ⟨by rfl, ?hy8⟩) (by assumption) ?rest8
        case hy8 => (intro wz hSw; (try dsimp only at hSw); first | (go_simp; done) | (go_simp; with_reducible rfl))
        try simp only [Act.put, List.getElem_toArray, List.getElem_cons_succ, List.getElem_cons_zero, List.setIfInBounds_toArray, List.set_cons_zero, List.set_cons_succ]
        refine wpAnyH_take (i := 9) (v := ?v9) rfl (by kernel_rfl) (by kernel_rfl) (by kernel_rfl) (fun _ _ _ h => h) (Or.inl ⟨by rfl, ?hy9⟩) (by assumption) ?rest9
        case hy9 => (intro wz hSw; (try dsimp only at hSw); first | (go_simp; done) | (go_simp; with_reducible rfl))
        try simp only [Act.put, List.getElem_toArray, List.getElem_cons_succ, List.getElem_cons_zero, List.setIfInBounds_toArray, List.set_cons_zero, List.set_cons_succ]
        refine wpAnyH_take (i := 10) (v := ?v10) rfl (by kernel_rfl) (by kernel_rfl) (by kernel_rfl) (fun _ _ _ h => h) (Or.inl ⟨by rfl, ?hy10⟩) (by assumption) ?rest10
        case hy10 => (intro wz hSw; (try dsimp only at hSw); first | (go_simp; done) | (go_simp; with_reducible rfl))
        try simp only [Act.put, List.getElem_toArray, List.getElem_cons_succ, List.getElem_cons_zero, List.setIfInBounds_toArray, List.set_cons_zero, List.set_cons_succ]
        refine wpAnyH_take (i := 11) (v := ?v11) rfl (by kernel_rfl) (by kernel_rfl) (by kernel_rfl) (fun _ _ _ h => h) (Or.inl ⟨by rfl, ?hy11⟩) (by assumption) ?rest11
        case hy11 => (intro wz hSw; (try dsimp only at hSw); first | (go_simp; done) | (go_simp; with_reducible rfl))
        try simp only [Act.put, List.getElem_toArray, List.getElem_cons_succ, List.getElem_cons_zero, List.setIfInBounds_toArray, List.set_cons_zero, List.set_cons_succ]
        refine wpAnyH_take (i := 12) (v := ?v12) rfl (by kernel_rfl) (by kernel_rfl) (by kernel_rfl) (fun _ _ _ h => h) (Or.inl ⟨by rfl, ?hy12⟩) (by assumption) ?rest12
        case hy12 => (intro wz hSw; (try dsimp only at hSw); first | (go_simp; done) | (go_simp; with_reducible rfl))
        try simp only [Act.put, List.getElem_toArray, List.getElem_cons_succ, List.getElem_cons_zero, List.setIfInBounds_toArray, List.set_cons_zero, List.set_cons_succ]
        refine wpAnyH_take (i := 13) (v := ?v13) rfl (by kernel_rfl) (by kernel_rfl) (by kernel_rfl) (fun _ _ _ h => h) (Or.inl ⟨by rfl, ?hy13⟩) (by assumption) ?rest13
        case hy13 => (intro wz hSw; (try dsimp only at hSw); first | (go_simp; done) | (go_simp; with_reducible rfl))
        try simp only [Act.put, List.getElem_toArray, List.getElem_cons_succ, List.getElem_cons_zero, List.setIfInBounds_toArray, List.set_cons_zero, List.set_cons_succ]
        refine wpAnyH_ready (rs := [7]) (by kernel_rfl) (by simp) ?_
        refine AllReadyH.cons (o := _) rfl (fun K hK => ?_) AllReadyH.nil
        go_simp
        refine (LW1.out _).mono ?_
        rintro e w20 ⟨rfl, rfl⟩
        try dsimp only
        refine hK.out _ _ hH0 (fun hH1 => ?_)
        clear hK K hH0
        try simp only [Act.put, List.getElem_toArray, List.getElem_cons_succ, List.getElem_cons_zero, List.setIfInBounds_toArray, List.set_cons_zero, List.set_cons_succ]
        refine wpAnyH_ready (rs := [14]) (by kernel_rfl) (by simp) ?_
        refine AllReadyH.cons (o := _) rfl (fun K hK => ?_) AllReadyH.nil
        go_simp
        refine (LW2.out _).mono ?_
        rintro e w21 ⟨rfl, rfl⟩
        try dsimp only
        refine hK.out _ _ hH1 (fun hH2 => ?_)
        clear hK K hH1
        try simp only [Act.put, List.getElem_toArray, List.getElem_cons_succ, List.getElem_cons_zero, List.setIfInBounds_toArray, List.set_cons_zero, List.set_cons_succ]
        refine wpAnyH_take (i := 15) (v := ?v14) rfl (by kernel_rfl) (by kernel_rfl) (by kernel_rfl) (fun _ _ _ h => h) (Or.inl ⟨by rfl, ?hy14⟩) (by assumption) ?rest14
        case hy14 => (intro wz hSw; (try dsimp only at hSw); first | (go_simp; done) | (go_simp; with_reducible rfl))
        try simp only [Act.put, List.getElem_toArray, List.getElem_cons_succ, List.getElem_cons_zero, List.setIfInBounds_toArray, List.set_cons_zero, List.set_cons_succ]
        refine wpAnyH_ready (rs := [16]) (by kernel_rfl) (by simp) ?_
        refine AllReadyH.cons (o := _) rfl (fun K hK => ?_) AllReadyH.nil
        go_simp
        try dsimp only
        refine hK.out _ _ (KS.out _ (gb_trans hH2.2.2 (gb_alloc _ _ none))) (fun hH3 => ?_)
        clear hK K
        try simp only [Act.put, List.getElem_toArray, List.getElem_cons_succ, List.getElem_cons_zero, List.setIfInBounds_toArray, List.set_cons_zero, List.set_cons_succ]
        refine wpAnyH_ready (rs := [17]) (by kernel_rfl) (by simp) ?_
        refine AllReadyH.cons (o := _) rfl (fun K hK => ?_) AllReadyH.nil
        refine step_pushC rfl _ _ rfl w.heap.size _ V rfl (HO.out.keep0 (gb_trans (gb_drew wr none) (gb_alloc _ _ none))) _ _ (x1, x2) rfl (two_cell _ _ _ _ _ (IsB.new _ _ _) rfl) (by omega) hH3.2.2.size ?_
        intro V9 w9 o9 g9
        have G9 := gb_own hH3.2.2 (HO.out.keep0 (gb_trans (gb_drew wr none) (gb_alloc _ _ none))) (Nat.le_refl _) g9
        refine hK.out _ _ (KS.out _ G9) (fun hH4 => ?_)
        clear hK K hH2 hH3
        try simp only [Act.put, List.getElem_toArray, List.getElem_cons_succ, List.getElem_cons_zero, List.setIfInBounds_toArray, List.set_cons_zero, List.set_cons_succ]
        refine wpAnyH_take (i := 18) (v := ?v15) rfl (by kernel_rfl) (by kernel_rfl) (by kernel_rfl) (fun _ _ _ h => h) (Or.inl ⟨by rfl, ?hy15⟩) (by assumption) ?rest15
        case hy15 => (intro wz hSw; (try dsimp only at hSw); first | (go_simp; done) | (go_simp; with_reducible rfl))
        try simp only [Act.put, List.getElem_toArray, List.getElem_cons_succ, List.getElem_cons_zero, List.setIfInBounds_toArray, List.set_cons_zero, List.set_cons_succ]
        refine wpAnyH_done (by kernel_rfl) ?_ _
        clear hH4 KS
        go_wp2
        go_roundw
        case rel => exact ⟨j + 1, V ++ [(x1, x2)], by omega, by go_num, V2.out, o9, G9⟩
        case measure => simp [intOf]; omega
    · have hje : j = n := by omega
      have VV : V = L.map (lowP k) := by rw [HV.out, List.take_of_length_le (by rw [HL.out]; omega)]
      have hvn : V.length = n := by rw [VV, List.length_map, HL.out]
      have wfV : Wf V := by rw [VV]; exact lowP_wf k L WA.out
      have hk1 := K1.out
      have hk2 := K2.out
      have hk62 : k ≤ 62 := by omega
      have hk64 : k ≤ 64 := by omega
      obtain ⟨f, hf⟩ : ∃ f, f = rstN k L := ⟨_, rfl⟩
      have FV := Lib.hid (show ∀ x, anyN V x = f x from fun x => by rw [VV, any_lowP, hf])
      have PE : (pcL (k : Int) L).2 = 0 := (pcL_err hk1 hk62 L WA.out).elim id (fun h => by
        have := Nat.pow_le_pow_right (n := 2) (by decide) hk2
        have e : (2 : Nat) ^ 9 = 512 := rfl
        omega)
      have PN := pcL_num hk1 hk62 L WA.out PE
      rw [← hf] at PN
      have NF := num_le k f
      have MF := Lib.hid (fun (hn0 : n ≠ 0) r (hr : FirstOf f (2 ^ k) 0 r) => show minI V (n - 1) = r by
        rw [VV, ← HL.out]
        rw [hf] at hr
        exact min_first hk64 L (by rw [HL.out]; omega) r hr)
      have SV := Lib.hid (sc_own HO.out wfV)
      rw [hvn] at SV
      have hjN : j ≤ 10 := by have := N1.out; omega
      subst hje
      obtain ⟨N, hN⟩ : ∃ N : Nat, N = 2 ^ k := ⟨_, rfl⟩
      have hN2 : N ≤ 512 := by rw [hN]; exact Nat.pow_le_pow_right (n := 2) (by decide) hk2
      have eb : IntKind.u64.wrap ((2 : Int) ^ k) = (N : Int) := by
        have : (2 : Int) ^ k = (N : Int) := by rw [hN]; simp
        rw [this, IntKind.wrap_u64]; omega
      have k0 : (0 : Int) ≤ (k : Int) := by omega
      have k1 : ¬ (k : Int) < 0 := by omega
      have k2 : (k : Int) < 64 := by omega
      have NE : numN k f = (List.range N).countP f := by unfold numN; rw [hN]
      have CC := Lib.hid (fun (w2 : World) (g : w.grownBy w2 none) => pcount_any w2 a j c (k : Int) L (HA.out.keep0 g) (by omega))
      unfold RetCnt at CC
      rw [PE, PN, NE] at CC
      obtain ⟨tot, htot⟩ : ∃ q, q = (List.range N).countP f := ⟨_, rfl⟩
      rw [NE] at NF
      rw [← htot] at CC NF
      rw [← hN] at NF
      have HT := Lib.hid htot
      have HVL := Lib.hid hvn
      have hNf := Lib.hid hN
      rw [hvn]
      clear hvl PE PN NE htot hvn VV wfV hf HV hN K1 K2 LW
      generalize wr = wz at *
      go_wp2
      go_loopw [8, 9, 10] (fun s8 s9 s10 wx => ∃ (t fi q : Nat), t ≤ N ∧ s10 = .int .u64 t ∧ s8 = .int .u64 q ∧ s9 = .int .u64 fi ∧ q + (List.range t).countP f = tot ∧ FirstOf f N t fi ∧ fi ≤ N ∧ wz.grownBy wx none) (fun _ _ s10 _ => (intOf s10).toNat)
      case atStart => exact ⟨N, 0, 0, Nat.le_refl _, rfl, rfl, rfl, by rw [HT.out]; omega, first_start f N 0, Nat.zero_le _, gb_refl _ _⟩
      case round =>
        obtain ⟨t, fi, q, ht, rfl, rfl, rfl, hq, hfi, hfb, hgx⟩ := hrel
        have HQ := Lib.hid hq
        have HFI := Lib.hid hfi
        have GX := Lib.hid hgx
        have qle : q ≤ 512 := by omega
        clear hq hfi hgx
        by_cases ht0 : t = 0
        · subst ht0
          have hq2 : q = tot := by have := HQ.out; simpa using this
          subst hq2
          have G1 := Lib.hid (gb_trans HG.out GX.out)
          have MS := Lib.hid (fun (w2 : World) (g : wz.grownBy w2 none) => minS_any w2 va j vc V (SV.out.keep0 g) (by omega))
          unfold RetIB at MS
          have F0 := HFI.out
          by_cases hj0 : j = 0
          · rw [if_pos hj0, show decide (j ≠ 0) = false by simp [hj0]] at MS
            subst hj0
            clear F0 MF
            go_wp2_with fail
            refine (CC.out _ G1.out).mono ?_
            rintro e w3 ⟨rfl, g3⟩
            have G3 := Lib.hid (gb_trans GX.out g3)
            clear g3
            go_wp2_with fail
            refine (MS.out _ G3.out).mono ?_
            rintro e w4 ⟨rfl, g4⟩
            have G4 := Lib.hid (gb_trans HG.out (gb_trans G3.out g4))
            clear g4
            go_wp2_with fail
            refine (WK.out _).mono ?_
            rintro e w5 ⟨rfl, g5⟩
            have G5 := Lib.hid (gb_trans G4.out g5)
            clear g5
            go_wp2
            go_ret
            exact ⟨rfl, G5.out⟩
          · rw [hNf.out] at F0
            have mf := MF.out hj0 fi F0
            rw [if_neg hj0, show decide (j ≠ 0) = true by simp [hj0], mf] at MS
            have j1 : (0 : Int) < (j : Int) := by omega
            clear F0 MF mf hj0
            go_wp2_with fail
            refine (CC.out _ G1.out).mono ?_
            rintro e w3 ⟨rfl, g3⟩
            have G3 := Lib.hid (gb_trans GX.out g3)
            clear g3
            go_wp2_with fail
            refine (MS.out _ G3.out).mono ?_
            rintro e w4 ⟨rfl, g4⟩
            have G4 := Lib.hid (gb_trans HG.out (gb_trans G3.out g4))
            clear g4
            go_wp2_with fail
            refine (WK.out _).mono ?_
            rintro e w5 ⟨rfl, g5⟩
            have G5 := Lib.hid (gb_trans G4.out g5)
            clear g5
            go_wp2
            go_ret
            exact ⟨rfl, G5.out⟩
        · obtain ⟨x, hx⟩ : ∃ x, t = x + 1 := ⟨t - 1, by omega⟩
          have hxN : x < N := by omega
          have ew : IntKind.u64.wrap ((t : Int) - 1) = (x : Int) := by rw [IntKind.wrap_u64]; omega
          have t0 : (0 : Int) < (t : Int) := by omega
          have RC := rcont_any _ va j vc V x (SV.out.keep0 GX.out) (by omega) (by unfold B64; omega)
          rw [FV.out x] at RC
          have NS := Lib.hid (num_step f x)
          rw [← hx] at NS
          have F2 := HFI.out
          rw [hx] at F2
          have HX := Lib.hid hx
          clear hx
          cases hfx : f x with
          | true =>
            rw [hfx] at RC
            have NS2 := Lib.hid (show (q + 1) + (List.range x).countP f = tot by
              have := HQ.out; have n2 := NS.out; rw [hfx, if_pos rfl] at n2; omega)
            have FY := Lib.hid (first_yes hxN hfx)
            have eq1 : IntKind.u64.wrap ((q : Int) + 1) = ((q + 1 : Nat) : Int) := by rw [IntKind.wrap_u64]; omega
            clear NS F2 hfx
            go_wp2_with fail
            refine RC.mono ?_
            rintro e w3 ⟨rfl, g3⟩
            have G3 := Lib.hid (gb_trans GX.out g3)
            clear g3 RC
            go_wp2
            go_roundw
            case rel => exact ⟨x, x, q + 1, by omega, rfl, by go_num, rfl, NS2.out, FY.out, by omega, G3.out⟩
            case measure => simp [intOf]; have := HX.out; omega
          | false =>
            rw [hfx] at RC
            have NS2 := Lib.hid (show q + (List.range x).countP f = tot by
              have := HQ.out; have n2 := NS.out; rw [hfx, if_neg (by decide)] at n2; omega)
            have FY := Lib.hid (first_no F2 hfx)
            clear NS F2 hfx
            go_wp2_with fail
            refine RC.mono ?_
            rintro e w3 ⟨rfl, g3⟩
            have G3 := Lib.hid (gb_trans GX.out g3)
            clear g3 RC
            go_wp2
            go_roundw
            case rel => exact ⟨x, fi, q, by omega, rfl, rfl, rfl, NS2.out, FY.out, hfb, G3.out⟩
            case measure => simp [intOf]; have := HX.out; omega
theorem counts_law (a : Option Addr) (n c : Nat) (L : List (Nat × Nat)) (x : Int) (W : World) (h : SC W a n c L) (wx : (Lit.int .u8 x).wf = true) : Calls Try.prog 6 #[.slice a n c, .int .u8 x] W (fun e w' => e = .returned (.bool true) ∧ Below W.heap.size W w') := by
  have h0 := u8_bd wx
  obtain ⟨y, rfl⟩ : ∃ y : Nat, x = (y : Int) := ⟨x.toNat, by omega⟩
  refine (counts_walk W a n c L y (by omega) h).mono ?_
  rintro e w' ⟨rfl, g⟩
  exact ⟨rfl, (gr_gb g).below⟩
end Go.Proofs.Yteemhabgliglmaa
