/- Expr: lists of references and of ints compared; the law's small functions; no condition but the lengths. -/
import Derived.Test.YtfjeonoihdgdoaaExK
namespace Go.Proofs.Ytfjeonoihdgdoaa
open Go.RowKit
set_option linter.unusedVariables false
theorem refC_at (L : List (Int × Int)) (j : Nat) (h : j < L.length) : (L.flatMap refC)[j * 2]? = some (.int .i64 (L.getD j (0, 0)).1) ∧ (L.flatMap refC)[j * 2 + 1]? = some (.int .i64 (L.getD j (0, 0)).2) := by
  induction L generalizing j with
  | nil => simp at h
  | cons t s ih =>
    cases j with
    | zero => simp [refC]
    | succ j =>
      have e1 : (j + 1) * 2 = j * 2 + 2 := by omega
      have e2 : (j + 1) * 2 + 1 = (j * 2 + 1) + 2 := by omega
      have k := ih j (by simpa using h)
      rw [List.flatMap_cons, e2, e1]
      simpa [refC] using k

theorem add_nextR (ad : Addr) (k : Nat) : (⟨(ad.add k).block, (ad.add k).off + 1, none⟩ : Addr) = ad.add (k + 1) := by
  rw [← Addr.add_add]
  rfl
theorem addR0 (g k : Nat) : (⟨g, 0, none⟩ : Addr).add k = ⟨g, k, none⟩ := by unfold Addr.add; split <;> simp_all
/-- A slice that reads as a list of references. -/
structure SQ (w : World) (a : Option Addr) (n c : Nat) (L : List (Int × Int)) : Prop where
  len : L.length = n
  nil : a = none → n = 0 ∧ c = 0
  cap : n ≤ c
  cells : ∀ ad, a = some ad → ∀ j, j < n → w.cell? (ad.add (j * 2)) = some (.int .i64 (L.getD j (0, 0)).1) ∧ w.cell? ⟨(ad.add (j * 2)).block, (ad.add (j * 2)).off + 1, none⟩ = some (.int .i64 (L.getD j (0, 0)).2)
theorem SQ.keep0 {w w2 : World} {a : Option Addr} {n c : Nat} {L : List (Int × Int)} (h : SQ w a n c L) (k : w.grownBy w2 none) : SQ w2 a n c L :=
  ⟨h.len, h.nil, h.cap, fun ad e j hj => ⟨k.cell (h.cells ad e j hj).1 (by simp), k.cell (h.cells ad e j hj).2 (by simp)⟩⟩
theorem SQ.some {w : World} {a : Option Addr} {n c : Nat} {L : List (Int × Int)} (h : SQ w a n c L) (hn : 0 < n) : ∃ ad, a = some ad := by
  cases a with
  | none => have := (h.nil rfl).1; omega
  | some ad => exact ⟨ad, rfl⟩
theorem RL.at_ {w : World} {base g c : Nat} {L : List (Int × Int)} (h : RL w base (.slice (some ⟨g, 0, none⟩) L.length c) L) (j : Nat) (hj : j < L.length) :
    w.cell? ⟨g, j * 2, none⟩ = some (.int .i64 (L.getD j (0, 0)).1) ∧ w.cell? ⟨g, j * 2 + 1, none⟩ = some (.int .i64 (L.getD j (0, 0)).2) := by
  obtain ⟨k1, k2⟩ := refC_at L j hj
  have hl : (L.flatMap refC).length = L.length * 2 := by
    clear h k1 k2 hj
    induction L with
    | nil => rfl
    | cons p L ih => rw [List.flatMap_cons, List.length_append, ih, List.length_cons]; show 2 + _ = _; omega
  constructor
  · rw [World.ownsRow.cellAt h (j * 2) (by omega), k1]
  · rw [World.ownsRow.cellAt h (j * 2 + 1) (by omega), k2]
theorem sq_own {w : World} {base c : Nat} {a : Option Addr} {L : List (Int × Int)} (h : RL w base (.slice a L.length c) L) : SQ w a L.length c L := by
  refine ⟨rfl, ?_, own_cap h, ?_⟩
  · intro ha
    subst ha
    rcases h.2 with ⟨k, h0⟩ | ⟨g, cap, cur, k, _⟩
    · injection k with _ _ kc; exact ⟨h0, kc⟩
    · injection k with k; cases k
  · intro ad ha j hj
    subst ha
    obtain ⟨g, d, hV⟩ := own_head h (by omega)
    injection hV with hV1 hV2 hV3
    injection hV1 with hV1
    subst hV1
    obtain ⟨k1, k2⟩ := RL.at_ h j hj
    rw [add_nextR, addR0, addR0]
    exact ⟨k1, k2⟩
/-- A slice that reads as a list of ints. -/
structure SZ (w : World) (a : Option Addr) (n c : Nat) (L : List Int) : Prop where
  len : L.length = n
  nil : a = none → n = 0 ∧ c = 0
  cap : n ≤ c
  cells : ∀ ad, a = some ad → ∀ j, j < n → w.cell? (ad.add j) = some (.int .i64 (L.getD j 0))
theorem SZ.keep0 {w w2 : World} {a : Option Addr} {n c : Nat} {L : List Int} (h : SZ w a n c L) (k : w.grownBy w2 none) : SZ w2 a n c L :=
  ⟨h.len, h.nil, h.cap, fun ad e j hj => k.cell (h.cells ad e j hj) (by simp)⟩
theorem SZ.some {w : World} {a : Option Addr} {n c : Nat} {L : List Int} (h : SZ w a n c L) (hn : 0 < n) : ∃ ad, a = some ad := by
  cases a with
  | none => have := (h.nil rfl).1; omega
  | some ad => exact ⟨ad, rfl⟩
theorem sz_own {w : World} {base c : Nat} {a : Option Addr} {L : List Int} (h : IL w base (.slice a L.length c) L) : SZ w a L.length c L := by
  refine ⟨rfl, ?_, own_cap h, ?_⟩
  · intro ha
    subst ha
    rcases h.2 with ⟨k, h0⟩ | ⟨g, cap, cur, k, _⟩
    · injection k with _ _ kc; exact ⟨h0, kc⟩
    · injection k with k; cases k
  · intro ad ha j hj
    subst ha
    obtain ⟨g, d, hV⟩ := own_head h (by omega)
    injection hV with hV1 hV2 hV3
    injection hV1 with hV1
    subst hV1
    rw [addR0]
    exact own_cell h j hj
theorem take_snocP {L M : List (Int × Int)} {j : Nat} (h : L.take j = M.take j) (h1 : j < L.length) (h2 : j < M.length) (e : L.getD j ((0, 0) : Int × Int) = M.getD j ((0, 0) : Int × Int)) : L.take (j + 1) = M.take (j + 1) := by
  rw [take_one L ((0, 0) : Int × Int) j h1, take_one M ((0, 0) : Int × Int) j h2, h, e]
set_option maxRecDepth 100000 in
set_option maxHeartbeats 4000000 in
theorem eqf_any (w : World) (a b : Option Addr) (n c m d : Nat) (L M : List (Int × Int)) (h : SQ w a n c L) (k : SQ w b m d M) (hn : n ≤ 10000) (hm : m ≤ 10000) :
    Calls Try.prog 38 #[.slice a n c, .slice b m d] w (RetV (.bool (decide (L = M))) w) := by
  have HL := Lib.hid h
  have HM := Lib.hid k
  have LL := Lib.hid h.len
  have LM := Lib.hid k.len
  have ncap := h.cap
  have mcap := k.cap
  clear h k
  by_cases hlen : n = m
  · subst hlen
    obtain ⟨r, hr⟩ : ∃ r, r = decide (L = M) := ⟨_, rfl⟩
    rw [← hr]
    have HR := Lib.hid hr
    clear hr
    go_enter Try.func38, Try.ntmps38
    go_wp2
    go_loopw [5] (fun i wr => ∃ j : Nat, j ≤ n ∧ i = .int .i64 j ∧ L.take j = M.take j ∧ w.grownBy wr none) (fun i _ => n - (intOf i).toNat)
    case atStart => exact ⟨0, Nat.zero_le _, rfl, rfl, gb_refl _ _⟩
    case round =>
      obtain ⟨j, hj, rfl, ht, hg⟩ := hrel
      have HT := Lib.hid ht
      have HG := Lib.hid hg
      clear ht hg
      by_cases hlt : j < n
      · have i1 : (j : Int) < n := by omega
        have i0 : (0 : Int) ≤ (j : Int) := by omega
        obtain ⟨ad, rfl⟩ := HL.out.some (by omega)
        obtain ⟨bd, rfl⟩ := HM.out.some (by omega)
        have HS := Lib.hid (take_snocP HT.out (by rw [LL.out]; exact hlt) (by rw [LM.out]; exact hlt))
        have HN := Lib.hid (show ¬ L.getD j ((0, 0) : Int × Int) = M.getD j ((0, 0) : Int × Int) → ¬ L = M from fun h e => h (by rw [e]))
        obtain ⟨k1, k2⟩ := (HL.out.keep0 HG.out).cells ad rfl j hlt
        obtain ⟨k3, k4⟩ := (HM.out.keep0 HG.out).cells bd rfl j hlt
        generalize L.getD j (0, 0) = p at *
        generalize M.getD j (0, 0) = q at *
        obtain ⟨x, y⟩ := p
        obtain ⟨u, v⟩ := q
        dsimp only at k1 k2 k3 k4
        by_cases ha : x = u
        · subst ha
          by_cases hb : y = v
          · subst hb
            have HS2 := Lib.hid (HS.out rfl)
            clear HS HN
            go_wp2
            go_quiet (fail)
            go_wp2
            go_roundw
            case rel => exact ⟨j + 1, by omega, by go_num, HS2.out, gb_trans HG.out (by first | exact gb_drewN _ _ _ | exact gb_trans (gb_drewN _ _ _) (gb_drewN _ _ _))⟩
            case measure => simp [intOf]; omega
          · have e2 : (y == v) = false := by rw [beq_eq_false_iff_ne]; exact hb
            have HN2 := HN.out (by simp [hb])
            have HR2 := Lib.hid (HR.out.trans (decide_eq_false HN2))
            clear HN HS HN2 HR
            go_wp2
            go_quiet (fail)
            go_wp2
            go_ret
            exact ⟨by rw [HR2.out] <;> rfl, gb_trans HG.out (by first | exact gb_drewN _ _ _ | exact gb_trans (gb_drewN _ _ _) (gb_drewN _ _ _))⟩
        · have e2 : (x == u) = false := by rw [beq_eq_false_iff_ne]; exact ha
          have HN2 := HN.out (by simp [ha])
          have HR2 := Lib.hid (HR.out.trans (decide_eq_false HN2))
          clear HN HS HN2 HR
          go_wp2
          go_quiet (fail)
          go_wp2
          go_ret
          exact ⟨by rw [HR2.out] <;> rfl, gb_trans HG.out (by first | exact gb_drewN _ _ _ | exact gb_trans (gb_drewN _ _ _) (gb_drewN _ _ _))⟩
      · have hje : j = n := by omega
        have e : L = M := by
          have h := HT.out
          rwa [List.take_of_length_le (by rw [LL.out]; omega), List.take_of_length_le (by rw [LM.out]; omega)] at h
        have HR2 := Lib.hid (HR.out.trans (decide_eq_true e))
        have i1 : ¬ (j : Int) < n := by omega
        clear e HT HR
        go_wp2
        go_ret
        exact ⟨by rw [HR2.out] <;> rfl, HG.out⟩
  · have hne : ¬ L = M := fun e => hlen (by rw [← LL.out, ← LM.out, e])
    rw [decide_eq_false hne]
    have e1 : ((n : Int) != m) = true := by rw [bne_iff_ne]; omega
    have e2 : ¬ (n : Int) = m := by omega
    clear hne hlen
    go_enter Try.func38, Try.ntmps38
    go_wp2
    go_ret
    exact ⟨rfl, gb_refl _ _⟩
theorem take_snocI {L M : List Int} {j : Nat} (h : L.take j = M.take j) (h1 : j < L.length) (h2 : j < M.length) (e : L.getD j (0 : Int) = M.getD j (0 : Int)) : L.take (j + 1) = M.take (j + 1) := by
  rw [take_one L (0 : Int) j h1, take_one M (0 : Int) j h2, h, e]
set_option maxRecDepth 100000 in
set_option maxHeartbeats 4000000 in
theorem eqi_any (w : World) (a b : Option Addr) (n c m d : Nat) (L M : List Int) (h : SZ w a n c L) (k : SZ w b m d M) (hn : n ≤ 10000) (hm : m ≤ 10000) :
    Calls Try.prog 40 #[.slice a n c, .slice b m d] w (RetV (.bool (decide (L = M))) w) := by
  have HL := Lib.hid h
  have HM := Lib.hid k
  have LL := Lib.hid h.len
  have LM := Lib.hid k.len
  have ncap := h.cap
  have mcap := k.cap
  clear h k
  by_cases hlen : n = m
  · subst hlen
    obtain ⟨r, hr⟩ : ∃ r, r = decide (L = M) := ⟨_, rfl⟩
    rw [← hr]
    have HR := Lib.hid hr
    clear hr
    go_enter Try.func40, Try.ntmps40
    go_wp2
    go_loopw [5] (fun i wr => ∃ j : Nat, j ≤ n ∧ i = .int .i64 j ∧ L.take j = M.take j ∧ w.grownBy wr none) (fun i _ => n - (intOf i).toNat)
    case atStart => exact ⟨0, Nat.zero_le _, rfl, rfl, gb_refl _ _⟩
    case round =>
      obtain ⟨j, hj, rfl, ht, hg⟩ := hrel
      have HT := Lib.hid ht
      have HG := Lib.hid hg
      clear ht hg
      by_cases hlt : j < n
      · have i1 : (j : Int) < n := by omega
        have i0 : (0 : Int) ≤ (j : Int) := by omega
        obtain ⟨ad, rfl⟩ := HL.out.some (by omega)
        obtain ⟨bd, rfl⟩ := HM.out.some (by omega)
        have HS := Lib.hid (take_snocI HT.out (by rw [LL.out]; exact hlt) (by rw [LM.out]; exact hlt))
        have HN := Lib.hid (show ¬ L.getD j (0 : Int) = M.getD j (0 : Int) → ¬ L = M from fun h e => h (by rw [e]))
        have k1 := (HL.out.keep0 HG.out).cells ad rfl j hlt
        have k3 := (HM.out.keep0 HG.out).cells bd rfl j hlt
        generalize L.getD j 0 = x at *
        generalize M.getD j 0 = u at *
        by_cases ha : x = u
        · subst ha
          have HS2 := Lib.hid (HS.out rfl)
          clear HS HN
          go_wp2
          go_quiet (fail)
          go_wp2
          go_roundw
          case rel => exact ⟨j + 1, by omega, by go_num, HS2.out, gb_trans HG.out (by first | exact gb_drewN _ _ _ | exact gb_trans (gb_drewN _ _ _) (gb_drewN _ _ _))⟩
          case measure => simp [intOf]; omega
        · have e2 : (x == u) = false := by rw [beq_eq_false_iff_ne]; exact ha
          have HN2 := HN.out (by simp [ha])
          have HR2 := Lib.hid (HR.out.trans (decide_eq_false HN2))
          clear HN HS HN2 HR
          go_wp2
          go_quiet (fail)
          go_wp2
          go_ret
          exact ⟨by rw [HR2.out] <;> rfl, gb_trans HG.out (by first | exact gb_drewN _ _ _ | exact gb_trans (gb_drewN _ _ _) (gb_drewN _ _ _))⟩
      · have hje : j = n := by omega
        have e : L = M := by
          have h := HT.out
          rwa [List.take_of_length_le (by rw [LL.out]; omega), List.take_of_length_le (by rw [LM.out]; omega)] at h
        have HR2 := Lib.hid (HR.out.trans (decide_eq_true e))
        have i1 : ¬ (j : Int) < n := by omega
        clear e HT HR
        go_wp2
        go_ret
        exact ⟨by rw [HR2.out] <;> rfl, HG.out⟩
  · have hne : ¬ L = M := fun e => hlen (by rw [← LL.out, ← LM.out, e])
    rw [decide_eq_false hne]
    have e1 : ((n : Int) != m) = true := by rw [bne_iff_ne]; omega
    have e2 : ¬ (n : Int) = m := by omega
    clear hne hlen
    go_enter Try.func40, Try.ntmps40
    go_wp2
    go_ret
    exact ⟨rfl, gb_refl _ _⟩
set_option maxRecDepth 100000 in
theorem lconst_any (w : World) (n : Int) : Calls Try.prog 35 #[.int .i64 n] w (RetV (.agg #[.int .i64 1, .int .i64 n, .int .i64 8]) w) := by
  go_enter Try.func35, Try.ntmps35
  go_wp2
  (try simp only [Exit.inBlock, Exit.then])
  refine bodyPost_ret (v := .agg #[.int .i64 1, .int .i64 n, .int .i64 8]) (by rw [results_cell1 rfl]; go_simp) rfl ⟨rfl, ?_⟩
  first
    | exact gb_al (gb_refl _ _)
end Go.Proofs.Ytfjeonoihdgdoaa
