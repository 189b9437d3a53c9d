/- The reference's tries: Mask, New, fits, find, Get, Lookup, Match. -/
import Derived.Test.YtidjggaffioekaaLtM
namespace Go.Proofs.Ytidjggaffioekaa
open Go.RowKit
set_option linter.unusedVariables false

theorem maskN_step (n i : Nat) : maskN (min n (i + 1)) (i + 1) = 2 * maskN (min n i) i + (if i < n then 1 else 0) := by
  unfold maskN
  have e : 2 ^ (i + 1) = 2 * 2 ^ i := by rw [Nat.pow_succ]; omega
  by_cases h : i < n
  · rw [if_pos h, show i + 1 - min n (i + 1) = 0 by omega, show i - min n i = 0 by omega, e]
    have := Nat.two_pow_pos i
    simp; omega
  · rw [if_neg h, show min n (i + 1) = min n i by omega, show i + 1 - min n i = (i - min n i) + 1 by omega, e, Nat.pow_succ]
    omega
theorem maskN_lt (n i : Nat) (h : i ≤ 32) : maskN n i < 4294967296 := mask_lt n i h
set_option maxRecDepth 100000 in
set_option maxHeartbeats 4000000 in
theorem rmask_any (w : World) (n wi : Nat) (hn : n ≤ wi) (hw : wi ≤ 32) : Calls Try.prog 14 #[.int .i64 n, .int .i64 wi] w (RetV (.int .u32 ((maskN n wi : Nat) : Int)) w) := by
  have MS := Lib.hid (maskN_step n)
  have ML := Lib.hid (fun i (h : i ≤ wi) => maskN_lt (min n i) i (by omega))
  have HW := Lib.hid hw
  have HN := Lib.hid hn
  obtain ⟨R, hR⟩ : ∃ R, R = maskN n wi := ⟨_, rfl⟩
  have HR := Lib.hid hR
  rw [← hR]
  clear hn hw hR
  go_enter Try.func14, Try.ntmps14
  go_wp2
  go_loop [5, 6] (fun m i => ∃ j : Nat, j ≤ wi ∧ m = .int .u64 ((maskN (min n j) j : Nat) : Int) ∧ i = .int .i64 j) (fun _ i => wi - (intOf i).toNat)
  case atStart => exact ⟨0, Nat.zero_le _, by simp [maskN], rfl⟩
  case round =>
    obtain ⟨j, hj, rfl, rfl⟩ := hrel
    by_cases hlt : j < wi
    · have st := MS.out j
      have l0 := ML.out j (by omega)
      have l1 := ML.out (j + 1) (by omega)
      generalize maskN (min n j) j = m at *
      generalize hm2 : maskN (min n (j + 1)) (j + 1) = m2 at *
      have HM2 := Lib.hid hm2
      have hw1 : IntKind.i64.wrap ((j : Int) + 1) = ((j + 1 : Nat) : Int) := by have := HW.out; rw [IntKind.wrap_i64]; omega
      have hw2 : IntKind.u64.wrap (2 * (m : Int)) = 2 * (m : Int) := by rw [IntKind.wrap_u64]; omega
      by_cases hjn : j < n
      · rw [if_pos hjn] at st
        have hw3 : IntKind.u64.wrap (2 * (m : Int) + 1) = (m2 : Int) := by rw [IntKind.wrap_u64]; omega
        clear hm2 st l0 l1
        go_wp2
        go_round
        case rel => exact ⟨j + 1, by omega, by rw [HM2.out], by first | rfl | (congr 1)⟩
        case measure => simp [intOf]; omega
      · rw [if_neg hjn] at st
        have hw2b : IntKind.u64.wrap (2 * (m : Int)) = (m2 : Int) := by rw [hw2]; omega
        clear hm2 st l0 l1 hw2
        go_wp2
        go_round
        case rel => exact ⟨j + 1, by omega, by rw [HM2.out], by first | rfl | (congr 1)⟩
        case measure => simp [intOf]; omega
    · obtain rfl : j = wi := by omega
      have l0 := ML.out j (by omega)
      have e : maskN (min n j) j = R := by rw [HR.out, Nat.min_eq_left HN.out]
      rw [e] at l0 ⊢
      have hw1 : IntKind.u32.wrap (R : Int) = (R : Int) := by rw [wrap32_u]; omega
      clear e l0
      go_wp2
      go_ret
      exact ⟨rfl, gb_refl _ _⟩
theorem and_ones (v wi : Nat) (hw : wi ≤ 32) (hv : v < 4294967296) : bits .and .u32 (v : Int) ((maskN wi wi : Nat) : Int) = ((v % 2 ^ wi : Nat) : Int) := by
  rw [u32_and_nat v _ hv (mask_lt wi wi hw)]
  unfold maskN
  rw [Nat.sub_self, Nat.pow_zero, Nat.and_two_pow_sub_one_eq_mod]
theorem and_mk (v n wi : Nat) (hn : n ≤ wi) (h2 : wi ≤ 32) (hv : v < 2 ^ wi) : bits .and .u32 (v : Int) ((maskN n wi : Nat) : Int) = E wi ((bitsN wi v).take n) := by
  have : 2 ^ wi ≤ 2 ^ 32 := Nat.pow_le_pow_right (by decide) h2
  rw [u32_and_nat v _ (by omega) (mask_lt n wi h2), and_enc wi n v hn hv]; rfl
set_option maxRecDepth 100000 in
set_option maxHeartbeats 4000000 in
theorem rfits_any (w : World) (v wi : Nat) (hw : wi ≤ 32) (hv : v < 4294967296) : Calls Try.prog 30 #[.int .u32 v, .int .i64 wi] w (RetV (.bool (decide (v < 2 ^ wi))) w) := by
  have MK := Lib.hid (rmask_any w wi wi (Nat.le_refl _) hw)
  have AO := and_ones v wi hw hv
  have X : (((v % 2 ^ wi : Nat) : Int) == (v : Int)) = decide (v < 2 ^ wi) := by
    rw [Bool.eq_iff_iff]
    simp only [beq_iff_eq, decide_eq_true_eq]
    constructor
    · intro h
      have : v % 2 ^ wi = v := by omega
      rw [← this]; exact Nat.mod_lt _ (Nat.two_pow_pos _)
    · intro h; rw [Nat.mod_eq_of_lt h]
  generalize decide (v < 2 ^ wi) = b at *
  generalize ((v % 2 ^ wi : Nat) : Int) = r at *
  generalize ((maskN wi wi : Nat) : Int) = mk at *
  clear hw hv
  go_enter Try.func30, Try.ntmps30
  go_wp2_with fail
  refine MK.out.mono ?_
  rintro e w1 ⟨rfl, g⟩
  have G := Lib.hid g
  clear g
  go_wp2
  go_ret
  exact ⟨rfl, G.out⟩
/-- The cells of an item. -/
def itI (wi : Nat) (e : Ent) : List Value := [.int .u32 (E wi e.1), .int .i64 e.1.length, .int .i64 e.2]
def RI (w : World) (base : Nat) (V : Value) (wi : Nat) (L : List Ent) : Prop := w.ownsRow base 72 3 V L.length (L.flatMap (itI wi))
theorem RI.nil (w : World) (base wi : Nat) : RI w base (.slice none 0 0) wi [] := World.ownsRow_nil _ _ _ _
theorem RI.keep0 {w w2 : World} {base wi : Nat} {V : Value} {L : List Ent} (h : RI w base V wi L) (k : w.grownBy w2 none) : RI w2 base V wi L := own_keep0 h k
theorem RI.shape {w : World} {base wi : Nat} {V : Value} {L : List Ent} (h : RI w base V wi L) : ∃ a c, V = .slice a L.length c := own_shape h
theorem infoIT : (Try.prog.info? 72).map (fun i => (i.zero, i.size, i.bytes)) = some (some (.agg #[.int .u32 0, .int .i64 0, .int .i64 0]), 3, 24) := by kernel_rfl
theorem itI_one (wi : Nat) (e : Ent) : ∀ u ∈ itI wi e, u.oneCell' = true := by
  intro u hu
  simp only [itI, List.mem_cons, List.not_mem_nil, or_false] at hu
  rcases hu with rfl | rfl | rfl <;> rfl
theorem itI_ones (wi : Nat) (L : List Ent) : ∀ u ∈ L.flatMap (itI wi), u.oneCell' = true := by
  intro u hu
  obtain ⟨p, _, h⟩ := List.mem_flatMap.1 hu
  exact itI_one wi p u h
theorem it_len {f : Ent → List Value} (hf : ∀ e, (f e).length = 3) (L : List Ent) : (L.flatMap f).length = L.length * 3 := by
  induction L with
  | nil => rfl
  | cons t s ih => rw [List.flatMap_cons, List.length_append, ih, hf]; simp; omega
theorem it_at {f : Ent → List Value} (hf : ∀ e, (f e).length = 3) (L : List Ent) (j r : Nat) (hr : r < 3) (h : j < L.length) : (L.flatMap f)[j * 3 + r]? = (f (L[j]))[r]? := by
  induction L generalizing j with
  | nil => simp at h
  | cons t s ih =>
    rw [List.flatMap_cons]
    cases j with
    | zero => rw [Nat.zero_mul, Nat.zero_add, List.getElem?_append_left (by rw [hf]; exact hr)]; rfl
    | succ j =>
      rw [List.getElem?_append_right (by rw [hf]; omega), hf, show (j + 1) * 3 + r - 3 = j * 3 + r by omega]
      simpa using ih j (by simpa using h)
theorem itI_3 (wi : Nat) (e : Ent) : (itI wi e).length = 3 := rfl
theorem itP_3 (wi : Nat) (e : Ent) : (itP wi e).length = 3 := rfl
/-- A slice that is read: three cells an entry. -/
def S3 (f : Ent → List Value) (w : World) (a : Option Addr) (n c : Nat) (L : List Ent) : Prop :=
  L.length = n ∧ (a = none → n = 0 ∧ c = 0) ∧ ∀ ad, a = some ad → ∀ j u, (L.flatMap f)[j]? = some u → w.cell? (ad.add j) = some u
theorem S3.keep0 {f : Ent → List Value} {w w2 : World} {a : Option Addr} {n c : Nat} {L : List Ent} (h : S3 f w a n c L) (k : w.grownBy w2 none) : S3 f w2 a n c L :=
  ⟨h.1, h.2.1, fun ad e j u hu => k.cell (h.2.2 ad e j u hu) (by simp)⟩
theorem own_s3 {f : Ent → List Value} {w : World} {base n c : Nat} {a : Option Addr} {e : TypeId} {L : List Ent} (hn : n = L.length) (h : w.ownsRow base e 3 (.slice a n c) L.length (L.flatMap f)) : S3 f w a n c L := by
  subst hn
  refine ⟨rfl, ?_, ?_⟩
  · intro ha; subst ha
    rcases h.2 with ⟨k, h0⟩ | ⟨g, cap, cur, k, _⟩
    · injection k with _ _ kc; exact ⟨h0, kc⟩
    · injection k with k; cases k
  · intro ad ha j u hu; subst ha
    rcases h.2 with ⟨k, _⟩ | ⟨g, cap, cur, k, _⟩
    · injection k with k; cases k
    · injection k with k; injection k with k; subst k
      exact h.cells (g := g) rfl j u hu
theorem it_take {f : Ent → List Value} (hf : ∀ e, (f e).length = 3) (L : List Ent) (m : Nat) : (L.take m).flatMap f = (L.flatMap f).take (m * 3) := by
  induction L generalizing m with
  | nil => simp
  | cons t s ih =>
    cases m with
    | zero => simp
    | succ m => rw [List.take_succ_cons, List.flatMap_cons, List.flatMap_cons, ih, show (m + 1) * 3 = (f t).length + m * 3 by rw [hf]; omega, List.take_length_add_append]
theorem it_drop {f : Ent → List Value} (hf : ∀ e, (f e).length = 3) (L : List Ent) (m : Nat) : (L.drop m).flatMap f = (L.flatMap f).drop (m * 3) := by
  induction L generalizing m with
  | nil => simp
  | cons t s ih =>
    cases m with
    | zero => simp
    | succ m => rw [List.drop_succ_cons, List.flatMap_cons, ih, show (m + 1) * 3 = (f t).length + m * 3 by rw [hf]; omega, List.drop_length_add_append]
theorem S3.pre {f : Ent → List Value} (hf : ∀ e, (f e).length = 3) {w : World} {a : Option Addr} {n c : Nat} {L : List Ent} (h : S3 f w a n c L) (m : Nat) (hm : m ≤ n) : S3 f w a m c (L.take m) := by
  refine ⟨by rw [List.length_take, h.1]; omega, fun e => ⟨by have := (h.2.1 e).1; omega, (h.2.1 e).2⟩, fun ad e j u hu => ?_⟩
  rw [it_take hf, List.getElem?_take] at hu
  split at hu
  · exact h.2.2 ad e j u hu
  · cases hu
theorem addr1 (g i j : Nat) : ((⟨g, i, none⟩ : Addr).add j) = ⟨g, i + j, none⟩ := by unfold Addr.add; split <;> simp_all
theorem S3.cut {f : Ent → List Value} (hf : ∀ e, (f e).length = 3) {w : World} {g n c : Nat} {L : List Ent} (h : S3 f w (some ⟨g, 0, none⟩) n c L) (m : Nat) (hm : m ≤ n) (hc : n ≤ c) : S3 f w (some (if c = m then (⟨g, 0, none⟩ : Addr) else ⟨g, m * 3, none⟩)) (n - m) (c - m) (L.drop m) := by
  refine ⟨by rw [List.length_drop, h.1], (by intro e; cases e), fun ad e j u hu => ?_⟩
  injection e with e; subst e
  rw [it_drop hf, List.getElem?_drop] at hu
  have hj := (List.getElem?_eq_some_iff.1 hu).1
  rw [it_len hf, h.1] at hj
  rw [if_neg (by omega), addr1, ← addr0]
  exact h.2.2 _ rfl _ _ hu
/-- The cells of an entry of a row. -/
theorem S3.at_ {f : Ent → List Value} (hf : ∀ e, (f e).length = 3) {w : World} {g n c : Nat} {L : List Ent} (h : S3 f w (some ⟨g, 0, none⟩) n c L) (j : Nat) (hj : j < L.length) :
    w.cell? ⟨g, j * 3, none⟩ = (f (L[j]))[0]? ∧ w.cell? ⟨g, j * 3 + 1, none⟩ = (f (L[j]))[1]? ∧ w.cell? ⟨g, j * 3 + 2, none⟩ = (f (L[j]))[2]? := by
  have k : ∀ r, r < 3 → w.cell? ⟨g, j * 3 + r, none⟩ = (f (L[j]))[r]? := fun r hr => by
    have e := it_at hf L j r hr hj
    have hl : r < (f (L[j])).length := by rw [hf]; exact hr
    rw [List.getElem?_eq_getElem hl] at e ⊢
    rw [← addr0]
    exact h.2.2 _ rfl _ _ e
  exact ⟨k 0 (by decide), k 1 (by decide), k 2 (by decide)⟩
theorem own_some {w : World} {base n c : Nat} {a : Option Addr} {e : TypeId} {xs : List Value} (h : w.ownsRow base e 3 (.slice a n c) n xs) (hn : 0 < n) : ∃ g, a = some ⟨g, 0, none⟩ := by
  obtain ⟨g, c2, k⟩ := own_head h hn
  injection k with k
  exact ⟨g, k⟩
/-- Where prefix p is found. -/
def fv (p : List Bool) (L : List Ent) : Int := if findL p L < L.length then (findL p L : Int) else -1
theorem findL_at {p : List Bool} {L : List Ent} (h : findL p L < L.length) : (L[findL p L]).1 = p := by
  have := List.findIdx_getElem (p := fun e : Ent => decide (e.1 = p)) (xs := L) (w := h)
  exact of_decide_eq_true this
theorem findL_no {p : List Bool} {L : List Ent} {j : Nat} (h : j < L.length) (hj : j < findL p L) : (L[j]).1 ≠ p := by
  have := List.not_of_lt_findIdx (p := fun e : Ent => decide (e.1 = p)) (xs := L) hj
  simpa [findL] using this
theorem findL_le (p : List Bool) (L : List Ent) : findL p L ≤ L.length := List.findIdx_le_length
theorem findL_is {p : List Bool} {L : List Ent} {j : Nat} (h : j < L.length) (hj : (L[j]).1 = p) (hb : j ≤ findL p L) : findL p L = j := by
  rcases Nat.lt_or_ge j (findL p L) with k | k
  · exact absurd hj (findL_no h k)
  · omega
set_option maxRecDepth 100000 in
set_option maxHeartbeats 4000000 in
theorem rfind_bad (w : World) (v wi : Nat) (m : Int) (a : Option Addr) (n c : Nat) (h2 : wi ≤ 32) (hv : v < 4294967296) (hn : ¬ (v < 2 ^ wi ∧ 0 ≤ m ∧ m ≤ wi)) : Calls Try.prog 31 #[.agg #[.int .i64 wi, .slice a n c], .int .u32 v, .int .i64 m] w (RetV (.int .i64 (-1)) w) := by
  have FT := Lib.hid (fun W => rfits_any W v wi h2 hv)
  have G1 := Lib.hid (gb_alloc w (.cells #[.int .i64 wi, .slice a n c] 30) none)
  have B1 := Lib.hid (IsB.new w 30 #[.int .i64 wi, .slice a n c])
  have B0 := Lib.hid (fun (W : World) (k : (w.alloc (.cells #[.int .i64 wi, .slice a n c] 30)).grownBy W none) => (B1.out.keep0 k).cell 0)
  by_cases hm : m < 0
  · clear h2 hv hn
    go_enter Try.func31, Try.ntmps31
    go_wp2
    go_ret
    exact ⟨rfl, G1.out⟩
  · by_cases hm2 : (wi : Int) < m
    · clear h2 hv hn
      go_enter Try.func31, Try.ntmps31
      go_wp2
      go_ret
      exact ⟨rfl, G1.out⟩
    · have hv2 : ¬ v < 2 ^ wi := fun k => hn ⟨k, by omega, by omega⟩
      rw [decide_eq_false hv2] at FT
      clear h2 hv hn hv2
      go_enter Try.func31, Try.ntmps31
      go_wp2_with fail
      refine (FT.out _).mono ?_
      rintro e w2 ⟨rfl, g⟩
      have G2 := Lib.hid (gb_trans G1.out g)
      clear g
      go_wp2
      go_ret
      exact ⟨rfl, G2.out⟩
set_option maxRecDepth 100000 in
set_option maxHeartbeats 4000000 in
theorem rfind_any (w : World) (v wi m : Nat) (base : Nat) (a : Option Addr) (n c : Nat) (L : List Ent) (p : List Bool) (h1 : 1 ≤ wi) (h2 : wi ≤ 32) (hv : v < 2 ^ wi) (hm : m ≤ wi) (hp : p = (bitsN wi v).take m) (h : RI w base (.slice a n c) wi L) (hn : n = L.length) (hf : Few wi L) (hL : n ≤ 100000) :
    Calls Try.prog 31 #[.agg #[.int .i64 wi, .slice a n c], .int .u32 v, .int .i64 m] w (RetV (.int .i64 (fv p L)) w) := by
  have hb : 2 ^ wi ≤ 2 ^ 32 := Nat.pow_le_pow_right (by decide) h2
  have pl : p.length = m := by rw [hp, List.length_take, bits_len]; omega
  have FT := Lib.hid (fun W => rfits_any W v wi h2 (by omega))
  rw [decide_eq_true hv] at FT
  have MK := Lib.hid (fun W => rmask_any W m wi hm h2)
  have AP := Lib.hid (and_mk v m wi hm h2 hv)
  rw [← hp] at AP
  have HF := Lib.hid hf
  have HP := Lib.hid pl
  have HN := Lib.hid hn
  have NB := Lib.hid hL
  have PW := Lib.hid (show p.length ≤ wi by omega)
  have SS := Lib.hid (fun (W : World) (k : w.grownBy W none) => own_s3 hn (h.keep0 k))
  have SO := Lib.hid (fun (k : 0 < n) => own_some (by subst hn; exact h) k)
  have i0 : ¬ (m : Int) < 0 := by omega
  have i1 : ¬ (wi : Int) < m := by omega
  unfold RetV at MK
  generalize ((maskN m wi : Nat) : Int) = mk at *
  have G1 := Lib.hid (gb_alloc w (.cells #[.int .i64 wi, .slice a n c] 30) none)
  have B1 := Lib.hid (IsB.new w 30 #[.int .i64 wi, .slice a n c])
  have B0 := Lib.hid (fun (W : World) (k : (w.alloc (.cells #[.int .i64 wi, .slice a n c] 30)).grownBy W none) => (⟨(B1.out.keep0 k).cell 0, (B1.out.keep0 k).cell 1⟩ : W.cell? ⟨w.heap.size, 0, none⟩ = some (.int .i64 wi) ∧ W.cell? ⟨w.heap.size, 1, none⟩ = some (.slice a n c)))
  clear h1 h2 hv hm hp h hn hf hL hb pl
  go_enter Try.func31, Try.ntmps31
  go_wp2_with fail
  refine (FT.out _).mono ?_
  rintro e w2 ⟨rfl, g⟩
  have G2 := Lib.hid g
  have B2 := Lib.hid (B1.out.keep0 g)
  clear g FT
  generalize w.alloc (.cells #[.int .i64 wi, .slice a n c] 30) = w1 at *
  obtain ⟨z, hz⟩ : ∃ x, x = w.heap.size := ⟨_, rfl⟩
  rw [← hz] at B1 B2 B0 ⊢
  clear hz
  go_wp2
  clear i0 i1
  go_loopw [7] (fun i wr => ∃ j : Nat, j ≤ n ∧ i = .int .i64 j ∧ j ≤ findL p L ∧ w1.grownBy wr none) (fun i _ => n - (intOf i).toNat)
  case atStart => exact ⟨0, Nat.zero_le _, rfl, Nat.zero_le _, G2.out⟩
  case round =>
    obtain ⟨j, hj, rfl, hjf, hg⟩ := hrel
    have G := Lib.hid hg
    have c0 := (B0.out _ hg).1
    have c1 := (B0.out _ hg).2
    have JF := Lib.hid hjf
    clear hg hjf
    by_cases hlt : j < n
    · obtain ⟨b, rfl⟩ := SO.out (by omega)
      have hjl : j < L.length := by have := HN.out; omega
      have i1 : (j : Int) < n := by omega
      have i2 : (0 : Int) ≤ (j : Int) := by omega
      have hw : IntKind.i64.wrap ((j : Int) + 1) = ((j + 1 : Nat) : Int) := by have := NB.out; rw [IntKind.wrap_i64]; omega
      obtain ⟨⟨ep, ex⟩, he⟩ : ∃ e, e = L[j] := ⟨_, rfl⟩
      have CC := Lib.hid (fun (W : World) (k : wr.grownBy W none) => (⟨((SS.out W (gb_trans G1.out (gb_trans G.out k))).at_ (itI_3 wi) j hjl).1.trans (by rw [← he]; rfl), ((SS.out W (gb_trans G1.out (gb_trans G.out k))).at_ (itI_3 wi) j hjl).2.1.trans (by rw [← he]; rfl)⟩ : W.cell? ⟨b, j * 3, none⟩ = some (.int .u32 (E wi ep)) ∧ W.cell? ⟨b, j * 3 + 1, none⟩ = some (.int .i64 ep.length)))
      have FE := Lib.hid (show ep.length ≤ wi from by have := HF.out (ep, ex) (by rw [he]; exact List.getElem_mem hjl); exact this)
      have HEQ := Lib.hid (show ∀ (k : j < L.length), (L[j]).1 = ep from fun k => by rw [← he])
      have HJL := Lib.hid hjl
      have d0 := (CC.out _ (gb_refl _ _)).1
      have d1 := (CC.out _ (gb_refl _ _)).2
      clear he hjl
      by_cases hl : ep.length = m
      · have EI := Lib.hid (show E wi ep = E wi p ↔ ep = p from ⟨fun k => E_inj FE.out PW.out (by have := HP.out; omega) k, fun k => by rw [k]⟩)
        rw [hl] at CC d1
        generalize E wi ep = ev at *
        generalize E wi p = pv at *
        have ap := AP.out
        clear hl
        obtain ⟨el, hel⟩ : ∃ x, x = m := ⟨_, rfl⟩
        have KEQ : ((m : Int) == (m : Int)) = true := by simp
        clear hel
        by_cases hev : ev = pv
        · have X : (ev == pv) = true := by simp [hev]
          have FX := Lib.hid (findL_is HJL.out ((HEQ.out HJL.out).trans (EI.out.1 hev)) JF.out)
          have FV := Lib.hid (show fv p L = (j : Int) by unfold fv; rw [FX.out, if_pos HJL.out])
          clear hev
          rw [FV.out]
          go_upto_region 6 with fail
          have KS := Lib.hid (fun (w' : World) (q0 : wr.grownBy w' none) => (⟨(B1.out.keep0 (gb_trans G.out q0)).cell 0, (B1.out.keep0 (gb_trans G.out q0)).cell 1, (CC.out _ q0).1, (CC.out _ q0).2, q0⟩ : (fun w' : World => w'.cell? ⟨z, 0, none⟩ = some (.int .i64 wi) ∧ w'.cell? ⟨z, 1, none⟩ = some (.slice (some ⟨b, 0, none⟩) n c) ∧ w'.cell? ⟨b, j * 3, none⟩ = some (.int .u32 ev) ∧ w'.cell? ⟨b, j * 3 + 1, none⟩ = some (.int .i64 m) ∧ wr.grownBy w' none) w'))
          have H0 := Lib.hid (gb_drew wr none)
          refine wp_region_held_drew (S := (fun w' : World => w'.cell? ⟨z, 0, none⟩ = some (.int .i64 wi) ∧ w'.cell? ⟨z, 1, none⟩ = some (.slice (some ⟨b, 0, none⟩) n c) ∧ w'.cell? ⟨b, j * 3, none⟩ = some (.int .u32 ev) ∧ w'.cell? ⟨b, j * 3 + 1, none⟩ = some (.int .i64 m) ∧ wr.grownBy w' none)) (by kernel_rfl) (KS.out _ H0.out) (fun hH0 => ?_)
          refine wpAnyH_take (i := 0) (v := ?v1) rfl (by kernel_rfl) (by kernel_rfl) (by kernel_rfl) (fun _ _ _ h => h) (Or.inl ⟨by rfl, ?hy1⟩) (by assumption) ?rest1
          case hy1 => (intro wz hSw; (try dsimp only at hSw); first | (go_simp; done) | (go_simp; with_reducible rfl))
          try simp only [Act.put, List.getElem_toArray, List.getElem_cons_zero, List.setIfInBounds_toArray, List.set_cons_zero, List.set_cons_succ]
          refine wpAnyH_take (i := 1) (v := ?v2) rfl (by kernel_rfl) (by kernel_rfl) (by kernel_rfl) (fun _ _ _ h => h) (Or.inl ⟨by rfl, ?hy2⟩) (by assumption) ?rest2
          case hy2 => (intro wz hSw; (try dsimp only at hSw); first | (go_simp; done) | (go_simp; with_reducible rfl))
          try simp only [Act.put, List.getElem_toArray, List.getElem_cons_succ, List.getElem_cons_zero, List.setIfInBounds_toArray, List.set_cons_zero, List.set_cons_succ]
          refine wpAnyH_take (i := 2) (v := ?v3) rfl (by kernel_rfl) (by kernel_rfl) (by kernel_rfl) (fun _ _ _ h => h) (Or.inl ⟨by rfl, ?hy3⟩) (by assumption) ?rest3
          case hy3 => (intro wz hSw; (try dsimp only at hSw); first | (go_simp; done) | (go_simp; with_reducible rfl))
          try simp only [Act.put, List.getElem_toArray, List.getElem_cons_succ, List.getElem_cons_zero, List.setIfInBounds_toArray, List.set_cons_zero, List.set_cons_succ]
          refine wpAnyH_take (i := 3) (v := ?v4) rfl (by kernel_rfl) (by kernel_rfl) (by kernel_rfl) (fun _ _ _ h => h) (Or.inl ⟨by rfl, ?hy4⟩) (by assumption) ?rest4
          case hy4 => (intro wz hSw; (try dsimp only at hSw); first | (go_simp; done) | (go_simp; with_reducible rfl))
          try simp only [Act.put, List.getElem_toArray, List.getElem_cons_succ, List.getElem_cons_zero, List.setIfInBounds_toArray, List.set_cons_zero, List.set_cons_succ]
          refine wpAnyH_take (i := 4) (v := ?v5) rfl (by kernel_rfl) (by kernel_rfl) (by kernel_rfl) (fun _ _ _ h => h) (Or.inl ⟨by rfl, ?hy5⟩) (by assumption) ?rest5
          case hy5 => (intro wz hSw; (try dsimp only at hSw); first | (go_simp; done) | (go_simp; with_reducible rfl))
          try simp only [Act.put, List.getElem_toArray, List.getElem_cons_succ, List.getElem_cons_zero, List.setIfInBounds_toArray, List.set_cons_zero, List.set_cons_succ]
          refine wpAnyH_take (i := 5) (v := ?v6) rfl (by kernel_rfl) (by kernel_rfl) (by kernel_rfl) (fun _ _ _ h => h) (Or.inl ⟨by rfl, ?hy6⟩) (by assumption) ?rest6
          case hy6 => (intro wz hSw; (try dsimp only at hSw); first | (go_simp; done) | (go_simp; with_reducible rfl))
          try simp only [Act.put, List.getElem_toArray, List.getElem_cons_succ, List.getElem_cons_zero, List.setIfInBounds_toArray, List.set_cons_zero, List.set_cons_succ]
          refine wpAnyH_take (i := 6) (v := ?v7) rfl (by kernel_rfl) (by kernel_rfl) (by kernel_rfl) (fun _ _ _ h => h) (Or.inl ⟨by rfl, ?hy7⟩) (by assumption) ?rest7
          case hy7 => (intro wz hSw; (try dsimp only at hSw); first | (go_simp; done) | (go_simp; with_reducible rfl))
          try simp only [Act.put, List.getElem_toArray, List.getElem_cons_succ, List.getElem_cons_zero, List.setIfInBounds_toArray, List.set_cons_zero, List.set_cons_succ]
          refine wpAnyH_take (i := 7) (v := ?v8) rfl (by kernel_rfl) (by kernel_rfl) (by kernel_rfl) (fun _ _ _ h => h) (Or.inl ⟨by rfl, ?hy8⟩) (by assumption) ?rest8
          case hy8 => (intro wz hSw; (try dsimp only at hSw); first | (go_simp; done) | (go_simp; with_reducible rfl))
          try simp only [Act.put, List.getElem_toArray, List.getElem_cons_succ, List.getElem_cons_zero, List.setIfInBounds_toArray, List.set_cons_zero, List.set_cons_succ]
          refine wpAnyH_take (i := 8) (v := ?v9) rfl (by kernel_rfl) (by kernel_rfl) (by kernel_rfl) (fun _ _ _ h => h) (Or.inl ⟨by rfl, ?hy9⟩) (by assumption) ?rest9
          case hy9 => (intro wz hSw; (try dsimp only at hSw); first | (go_simp; done) | (go_simp; with_reducible rfl))
          try simp only [Act.put, List.getElem_toArray, List.getElem_cons_succ, List.getElem_cons_zero, List.setIfInBounds_toArray, List.set_cons_zero, List.set_cons_succ]
          refine wpAnyH_take (i := 9) (v := ?v10) rfl (by kernel_rfl) (by kernel_rfl) (by kernel_rfl) (fun _ _ _ h => h) (Or.inl ⟨by rfl, ?hy10⟩) (by assumption) ?rest10
          case hy10 => (intro wz hSw; (try dsimp only at hSw); first | (go_simp; done) | (go_simp; with_reducible rfl))
          try simp only [Act.put, List.getElem_toArray, List.getElem_cons_succ, List.getElem_cons_zero, List.setIfInBounds_toArray, List.set_cons_zero, List.set_cons_succ]
          refine wpAnyH_take (i := 10) (v := ?v11) rfl (by kernel_rfl) (by kernel_rfl) (by kernel_rfl) (fun _ _ _ h => h) (Or.inl ⟨by rfl, ?hy11⟩) (by assumption) ?rest11
          case hy11 => (intro wz hSw; (try dsimp only at hSw); first | (go_simp; done) | (go_simp; with_reducible rfl))
          try simp only [Act.put, List.getElem_toArray, List.getElem_cons_succ, List.getElem_cons_zero, List.setIfInBounds_toArray, List.set_cons_zero, List.set_cons_succ]
          refine wpAnyH_take (i := 11) (v := ?v12) rfl (by kernel_rfl) (by kernel_rfl) (by kernel_rfl) (fun _ _ _ h => h) (Or.inl ⟨by rfl, ?hy12⟩) (by assumption) ?rest12
          case hy12 => (intro wz hSw; (try dsimp only at hSw); first | (go_simp; done) | (go_simp; with_reducible rfl))
          try simp only [Act.put, List.getElem_toArray, List.getElem_cons_succ, List.getElem_cons_zero, List.setIfInBounds_toArray, List.set_cons_zero, List.set_cons_succ]
          refine wpAnyH_take (i := 12) (v := ?v13) rfl (by kernel_rfl) (by kernel_rfl) (by kernel_rfl) (fun _ _ _ h => h) (Or.inl ⟨by rfl, ?hy13⟩) (by assumption) ?rest13
          case hy13 => (intro wz hSw; (try dsimp only at hSw); first | (go_simp; done) | (go_simp; with_reducible rfl))
          try simp only [Act.put, List.getElem_toArray, List.getElem_cons_succ, List.getElem_cons_zero, List.setIfInBounds_toArray, List.set_cons_zero, List.set_cons_succ]
          refine wpAnyH_take (i := 13) (v := ?v14) rfl (by kernel_rfl) (by kernel_rfl) (by kernel_rfl) (fun _ _ _ h => h) (Or.inl ⟨by rfl, ?hy14⟩) (by assumption) ?rest14
          case hy14 => (intro wz hSw; (try dsimp only at hSw); first | (go_simp; done) | (go_simp; with_reducible rfl))
          try simp only [Act.put, List.getElem_toArray, List.getElem_cons_succ, List.getElem_cons_zero, List.setIfInBounds_toArray, List.set_cons_zero, List.set_cons_succ]
          refine wpAnyH_take (i := 14) (v := ?v15) rfl (by kernel_rfl) (by kernel_rfl) (by kernel_rfl) (fun _ _ _ h => h) (Or.inl ⟨by rfl, ?hy15⟩) (by assumption) ?rest15
          case hy15 => (intro wz hSw; (try dsimp only at hSw); first | (go_simp; done) | (go_simp; with_reducible rfl))
          try simp only [Act.put, List.getElem_toArray, List.getElem_cons_succ, List.getElem_cons_zero, List.setIfInBounds_toArray, List.set_cons_zero, List.set_cons_succ]
          refine wpAnyH_take (i := 15) (v := ?v16) rfl (by kernel_rfl) (by kernel_rfl) (by kernel_rfl) (fun _ _ _ h => h) (Or.inl ⟨by rfl, ?hy16⟩) (by assumption) ?rest16
          case hy16 => (intro wz hSw; (try dsimp only at hSw); first | (go_simp; done) | (go_simp; with_reducible rfl))
          try simp only [Act.put, List.getElem_toArray, List.getElem_cons_succ, List.getElem_cons_zero, List.setIfInBounds_toArray, List.set_cons_zero, List.set_cons_succ]
          refine wpAnyH_take (i := 16) (v := ?v17) rfl (by kernel_rfl) (by kernel_rfl) (by kernel_rfl) (fun _ _ _ h => h) (Or.inl ⟨by rfl, ?hy17⟩) (by assumption) ?rest17
          case hy17 => (intro wz hSw; (try dsimp only at hSw); first | (go_simp; done) | (go_simp; with_reducible rfl))
          try simp only [Act.put, List.getElem_toArray, List.getElem_cons_succ, List.getElem_cons_zero, List.setIfInBounds_toArray, List.set_cons_zero, List.set_cons_succ]
          refine wpAnyH_take (i := 17) (v := ?v18) rfl (by kernel_rfl) (by kernel_rfl) (by kernel_rfl) (fun _ _ _ h => h) (Or.inl ⟨by rfl, ?hy18⟩) (by assumption) ?rest18
          case hy18 => (intro wz hSw; (try dsimp only at hSw); first | (go_simp; done) | (go_simp; with_reducible rfl))
          try simp only [Act.put, List.getElem_toArray, List.getElem_cons_succ, List.getElem_cons_zero, List.setIfInBounds_toArray, List.set_cons_zero, List.set_cons_succ]
          refine wpAnyH_take (i := 18) (v := ?v19) rfl (by kernel_rfl) (by kernel_rfl) (by kernel_rfl) (fun _ _ _ h => h) (Or.inl ⟨by rfl, ?hy19⟩) (by assumption) ?rest19
          case hy19 => (intro wz hSw; (try dsimp only at hSw); first | (go_simp; done) | (go_simp; with_reducible rfl))
          try simp only [Act.put, List.getElem_toArray, List.getElem_cons_succ, List.getElem_cons_zero, List.setIfInBounds_toArray, List.set_cons_zero, List.set_cons_succ]
          refine wpAnyH_ready (rs := [19]) (by kernel_rfl) (by simp) ?_
          refine AllReadyH.cons (o := _) rfl (fun K hK => ?_) AllReadyH.nil
          go_simp
          (with_reducible refine (MK.out _).mono ?_)
          rintro e hw1 ⟨rfl, g⟩
          have H1 := Lib.hid (gb_trans H0.out g)
          clear g
          try dsimp only
          refine hK.out _ _ (KS.out _ H1.out) (fun hH1 => ?_)
          clear hK K hH0
          try simp only [Act.put, List.getElem_toArray, List.getElem_cons_succ, List.getElem_cons_zero, List.setIfInBounds_toArray, List.set_cons_zero, List.set_cons_succ]
          refine wpAnyH_take (i := 20) (v := ?v20) rfl (by kernel_rfl) (by kernel_rfl) (by kernel_rfl) (fun _ _ _ h => h) (Or.inl ⟨by rfl, ?hy20⟩) (by assumption) ?rest20
          case hy20 => (intro wz hSw; (try dsimp only at hSw); first | (go_simp; done) | (go_simp; with_reducible rfl))
          try simp only [Act.put, List.getElem_toArray, List.getElem_cons_succ, List.getElem_cons_zero, List.setIfInBounds_toArray, List.set_cons_zero, List.set_cons_succ]
          refine wpAnyH_take (i := 21) (v := ?v21) rfl (by kernel_rfl) (by kernel_rfl) (by kernel_rfl) (fun _ _ _ h => h) (Or.inl ⟨by rfl, ?hy21⟩) (by assumption) ?rest21
          case hy21 => (intro wz hSw; (try dsimp only at hSw); first | (go_simp; done) | (go_simp; with_reducible rfl))
          try simp only [Act.put, List.getElem_toArray, List.getElem_cons_succ, List.getElem_cons_zero, List.setIfInBounds_toArray, List.set_cons_zero, List.set_cons_succ]
          refine wpAnyH_take (i := 22) (v := ?v22) rfl (by kernel_rfl) (by kernel_rfl) (by kernel_rfl) (fun _ _ _ h => h) (Or.inl ⟨by rfl, ?hy22⟩) (by assumption) ?rest22
          case hy22 => (intro wz hSw; (try dsimp only at hSw); first | (go_simp; done) | (go_simp; with_reducible rfl))
          try simp only [Act.put, List.getElem_toArray, List.getElem_cons_succ, List.getElem_cons_zero, List.setIfInBounds_toArray, List.set_cons_zero, List.set_cons_succ]
          refine wpAnyH_done (by kernel_rfl) ?_ _
          clear hH1
          have GX := Lib.hid (gb_trans G.out H1.out)
          clear d0 d1 c0 c1
          go_wp2
          go_ret
          exact ⟨rfl, gb_trans G1.out GX.out⟩
        · have X : (ev == pv) = false := by rw [beq_eq_false_iff_ne]; exact hev
          have NX := Lib.hid (show j + 1 ≤ findL p L from by
            rcases Nat.lt_or_ge j (findL p L) with k | k
            · omega
            · have e : findL p L = j := by have := JF.out; omega
              have q := findL_at (p := p) (L := L) (by rw [e]; exact HJL.out)
              have q2 : (L[j]'HJL.out).1 = p := by rw [← q]; congr 2; exact e.symm
              exact absurd (EI.out.2 ((HEQ.out HJL.out).symm.trans q2)) hev)
          clear hev
          go_upto_region 6 with fail
          have KS := Lib.hid (fun (w' : World) (q0 : wr.grownBy w' none) => (⟨(B1.out.keep0 (gb_trans G.out q0)).cell 0, (B1.out.keep0 (gb_trans G.out q0)).cell 1, (CC.out _ q0).1, (CC.out _ q0).2, q0⟩ : (fun w' : World => w'.cell? ⟨z, 0, none⟩ = some (.int .i64 wi) ∧ w'.cell? ⟨z, 1, none⟩ = some (.slice (some ⟨b, 0, none⟩) n c) ∧ w'.cell? ⟨b, j * 3, none⟩ = some (.int .u32 ev) ∧ w'.cell? ⟨b, j * 3 + 1, none⟩ = some (.int .i64 m) ∧ wr.grownBy w' none) w'))
          have H0 := Lib.hid (gb_drew wr none)
          refine wp_region_held_drew (S := (fun w' : World => w'.cell? ⟨z, 0, none⟩ = some (.int .i64 wi) ∧ w'.cell? ⟨z, 1, none⟩ = some (.slice (some ⟨b, 0, none⟩) n c) ∧ w'.cell? ⟨b, j * 3, none⟩ = some (.int .u32 ev) ∧ w'.cell? ⟨b, j * 3 + 1, none⟩ = some (.int .i64 m) ∧ wr.grownBy w' none)) (by kernel_rfl) (KS.out _ H0.out) (fun hH0 => ?_)
          refine wpAnyH_take (i := 0) (v := ?v23) rfl (by kernel_rfl) (by kernel_rfl) (by kernel_rfl) (fun _ _ _ h => h) (Or.inl ⟨by rfl, ?hy23⟩) (by assumption) ?rest23
          case hy23 => (intro wz hSw; (try dsimp only at hSw); first | (go_simp; done) | (go_simp; with_reducible rfl))
          try simp only [Act.put, List.getElem_toArray, List.getElem_cons_zero, List.setIfInBounds_toArray, List.set_cons_zero, List.set_cons_succ]
          refine wpAnyH_take (i := 1) (v := ?v24) rfl (by kernel_rfl) (by kernel_rfl) (by kernel_rfl) (fun _ _ _ h => h) (Or.inl ⟨by rfl, ?hy24⟩) (by assumption) ?rest24
          case hy24 => (intro wz hSw; (try dsimp only at hSw); first | (go_simp; done) | (go_simp; with_reducible rfl))
          try simp only [Act.put, List.getElem_toArray, List.getElem_cons_succ, List.getElem_cons_zero, List.setIfInBounds_toArray, List.set_cons_zero, List.set_cons_succ]
          refine wpAnyH_take (i := 2) (v := ?v25) rfl (by kernel_rfl) (by kernel_rfl) (by kernel_rfl) (fun _ _ _ h => h) (Or.inl ⟨by rfl, ?hy25⟩) (by assumption) ?rest25
          case hy25 => (intro wz hSw; (try dsimp only at hSw); first | (go_simp; done) | (go_simp; with_reducible rfl))
          try simp only [Act.put, List.getElem_toArray, List.getElem_cons_succ, List.getElem_cons_zero, List.setIfInBounds_toArray, List.set_cons_zero, List.set_cons_succ]
          refine wpAnyH_take (i := 3) (v := ?v26) rfl (by kernel_rfl) (by kernel_rfl) (by kernel_rfl) (fun _ _ _ h => h) (Or.inl ⟨by rfl, ?hy26⟩) (by assumption) ?rest26
          case hy26 => (intro wz hSw; (try dsimp only at hSw); first | (go_simp; done) | (go_simp; with_reducible rfl))
          try simp only [Act.put, List.getElem_toArray, List.getElem_cons_succ, List.getElem_cons_zero, List.setIfInBounds_toArray, List.set_cons_zero, List.set_cons_succ]
          refine wpAnyH_take (i := 4) (v := ?v27) rfl (by kernel_rfl) (by kernel_rfl) (by kernel_rfl) (fun _ _ _ h => h) (Or.inl ⟨by rfl, ?hy27⟩) (by assumption) ?rest27
          case hy27 => (intro wz hSw; (try dsimp only at hSw); first | (go_simp; done) | (go_simp; with_reducible rfl))
          try simp only [Act.put, List.getElem_toArray, List.getElem_cons_succ, List.getElem_cons_zero, List.setIfInBounds_toArray, List.set_cons_zero, List.set_cons_succ]
          refine wpAnyH_take (i := 5) (v := ?v28) rfl (by kernel_rfl) (by kernel_rfl) (by kernel_rfl) (fun _ _ _ h => h) (Or.inl ⟨by rfl, ?hy28⟩) (by assumption) ?rest28
          case hy28 => (intro wz hSw; (try dsimp only at hSw); first | (go_simp; done) | (go_simp; with_reducible rfl))
          try simp only [Act.put, List.getElem_toArray, List.getElem_cons_succ, List.getElem_cons_zero, List.setIfInBounds_toArray, List.set_cons_zero, List.set_cons_succ]
          refine wpAnyH_take (i := 6) (v := ?v29) rfl (by kernel_rfl) (by kernel_rfl) (by kernel_rfl) (fun _ _ _ h => h) (Or.inl ⟨by rfl, ?hy29⟩) (by assumption) ?rest29
          case hy29 => (intro wz hSw; (try dsimp only at hSw); first | (go_simp; done) | (go_simp; with_reducible rfl))
          try simp only [Act.put, List.getElem_toArray, List.getElem_cons_succ, List.getElem_cons_zero, List.setIfInBounds_toArray, List.set_cons_zero, List.set_cons_succ]
          refine wpAnyH_take (i := 7) (v := ?v30) rfl (by kernel_rfl) (by kernel_rfl) (by kernel_rfl) (fun _ _ _ h => h) (Or.inl ⟨by rfl, ?hy30⟩) (by assumption) ?rest30
          case hy30 => (intro wz hSw; (try dsimp only at hSw); first | (go_simp; done) | (go_simp; with_reducible rfl))
          try simp only [Act.put, List.getElem_toArray, List.getElem_cons_succ, List.getElem_cons_zero, List.setIfInBounds_toArray, List.set_cons_zero, List.set_cons_succ]
          refine wpAnyH_take (i := 8) (v := ?v31) rfl (by kernel_rfl) (by kernel_rfl) (by kernel_rfl) (fun _ _ _ h => h) (Or.inl ⟨by rfl, ?hy31⟩) (by assumption) ?rest31
          case hy31 => (intro wz hSw; (try dsimp only at hSw); first | (go_simp; done) | (go_simp; with_reducible rfl))
          try simp only [Act.put, List.getElem_toArray, List.getElem_cons_succ, List.getElem_cons_zero, List.setIfInBounds_toArray, List.set_cons_zero, List.set_cons_succ]
          refine wpAnyH_take (i := 9) (v := ?v32) rfl (by kernel_rfl) (by kernel_rfl) (by kernel_rfl) (fun _ _ _ h => h) (Or.inl ⟨by rfl, ?hy32⟩) (by assumption) ?rest32
          case hy32 => (intro wz hSw; (try dsimp only at hSw); first | (go_simp; done) | (go_simp; with_reducible rfl))
          try simp only [Act.put, List.getElem_toArray, List.getElem_cons_succ, List.getElem_cons_zero, List.setIfInBounds_toArray, List.set_cons_zero, List.set_cons_succ]
          refine wpAnyH_take (i := 10) (v := ?v33) rfl (by kernel_rfl) (by kernel_rfl) (by kernel_rfl) (fun _ _ _ h => h) (Or.inl ⟨by rfl, ?hy33⟩) (by assumption) ?rest33
          case hy33 => (intro wz hSw; (try dsimp only at hSw); first | (go_simp; done) | (go_simp; with_reducible rfl))
          try simp only [Act.put, List.getElem_toArray, List.getElem_cons_succ, List.getElem_cons_zero, List.setIfInBounds_toArray, List.set_cons_zero, List.set_cons_succ]
          refine wpAnyH_take (i := 11) (v := ?v34) rfl (by kernel_rfl) (by kernel_rfl) (by kernel_rfl) (fun _ _ _ h => h) (Or.inl ⟨by rfl, ?hy34⟩) (by assumption) ?rest34
          case hy34 => (intro wz hSw; (try dsimp only at hSw); first | (go_simp; done) | (go_simp; with_reducible rfl))
          try simp only [Act.put, List.getElem_toArray, List.getElem_cons_succ, List.getElem_cons_zero, List.setIfInBounds_toArray, List.set_cons_zero, List.set_cons_succ]
          refine wpAnyH_take (i := 12) (v := ?v35) rfl (by kernel_rfl) (by kernel_rfl) (by kernel_rfl) (fun _ _ _ h => h) (Or.inl ⟨by rfl, ?hy35⟩) (by assumption) ?rest35
          case hy35 => (intro wz hSw; (try dsimp only at hSw); first | (go_simp; done) | (go_simp; with_reducible rfl))
          try simp only [Act.put, List.getElem_toArray, List.getElem_cons_succ, List.getElem_cons_zero, List.setIfInBounds_toArray, List.set_cons_zero, List.set_cons_succ]
          refine wpAnyH_take (i := 13) (v := ?v36) rfl (by kernel_rfl) (by kernel_rfl) (by kernel_rfl) (fun _ _ _ h => h) (Or.inl ⟨by rfl, ?hy36⟩) (by assumption) ?rest36
          case hy36 => (intro wz hSw; (try dsimp only at hSw); first | (go_simp; done) | (go_simp; with_reducible rfl))
          try simp only [Act.put, List.getElem_toArray, List.getElem_cons_succ, List.getElem_cons_zero, List.setIfInBounds_toArray, List.set_cons_zero, List.set_cons_succ]
          refine wpAnyH_take (i := 14) (v := ?v37) rfl (by kernel_rfl) (by kernel_rfl) (by kernel_rfl) (fun _ _ _ h => h) (Or.inl ⟨by rfl, ?hy37⟩) (by assumption) ?rest37
          case hy37 => (intro wz hSw; (try dsimp only at hSw); first | (go_simp; done) | (go_simp; with_reducible rfl))
          try simp only [Act.put, List.getElem_toArray, List.getElem_cons_succ, List.getElem_cons_zero, List.setIfInBounds_toArray, List.set_cons_zero, List.set_cons_succ]
          refine wpAnyH_take (i := 15) (v := ?v38) rfl (by kernel_rfl) (by kernel_rfl) (by kernel_rfl) (fun _ _ _ h => h) (Or.inl ⟨by rfl, ?hy38⟩) (by assumption) ?rest38
          case hy38 => (intro wz hSw; (try dsimp only at hSw); first | (go_simp; done) | (go_simp; with_reducible rfl))
          try simp only [Act.put, List.getElem_toArray, List.getElem_cons_succ, List.getElem_cons_zero, List.setIfInBounds_toArray, List.set_cons_zero, List.set_cons_succ]
          refine wpAnyH_take (i := 16) (v := ?v39) rfl (by kernel_rfl) (by kernel_rfl) (by kernel_rfl) (fun _ _ _ h => h) (Or.inl ⟨by rfl, ?hy39⟩) (by assumption) ?rest39
          case hy39 => (intro wz hSw; (try dsimp only at hSw); first | (go_simp; done) | (go_simp; with_reducible rfl))
          try simp only [Act.put, List.getElem_toArray, List.getElem_cons_succ, List.getElem_cons_zero, List.setIfInBounds_toArray, List.set_cons_zero, List.set_cons_succ]
          refine wpAnyH_take (i := 17) (v := ?v40) rfl (by kernel_rfl) (by kernel_rfl) (by kernel_rfl) (fun _ _ _ h => h) (Or.inl ⟨by rfl, ?hy40⟩) (by assumption) ?rest40
          case hy40 => (intro wz hSw; (try dsimp only at hSw); first | (go_simp; done) | (go_simp; with_reducible rfl))
          try simp only [Act.put, List.getElem_toArray, List.getElem_cons_succ, List.getElem_cons_zero, List.setIfInBounds_toArray, List.set_cons_zero, List.set_cons_succ]
          refine wpAnyH_take (i := 18) (v := ?v41) rfl (by kernel_rfl) (by kernel_rfl) (by kernel_rfl) (fun _ _ _ h => h) (Or.inl ⟨by rfl, ?hy41⟩) (by assumption) ?rest41
          case hy41 => (intro wz hSw; (try dsimp only at hSw); first | (go_simp; done) | (go_simp; with_reducible rfl))
          try simp only [Act.put, List.getElem_toArray, List.getElem_cons_succ, List.getElem_cons_zero, List.setIfInBounds_toArray, List.set_cons_zero, List.set_cons_succ]
          refine wpAnyH_ready (rs := [19]) (by kernel_rfl) (by simp) ?_
          refine AllReadyH.cons (o := _) rfl (fun K hK => ?_) AllReadyH.nil
          go_simp
          (with_reducible refine (MK.out _).mono ?_)
          rintro e hw1 ⟨rfl, g⟩
          have H1 := Lib.hid (gb_trans H0.out g)
          clear g
          try dsimp only
          refine hK.out _ _ (KS.out _ H1.out) (fun hH1 => ?_)
          clear hK K hH0
          try simp only [Act.put, List.getElem_toArray, List.getElem_cons_succ, List.getElem_cons_zero, List.setIfInBounds_toArray, List.set_cons_zero, List.set_cons_succ]
          refine wpAnyH_take (i := 20) (v := ?v42) rfl (by kernel_rfl) (by kernel_rfl) (by kernel_rfl) (fun _ _ _ h => h) (Or.inl ⟨by rfl, ?hy42⟩) (by assumption) ?rest42
          case hy42 => (intro wz hSw; (try dsimp only at hSw); first | (go_simp; done) | (go_simp; with_reducible rfl))
          try simp only [Act.put, List.getElem_toArray, List.getElem_cons_succ, List.getElem_cons_zero, List.setIfInBounds_toArray, List.set_cons_zero, List.set_cons_succ]
          refine wpAnyH_take (i := 21) (v := ?v43) rfl (by kernel_rfl) (by kernel_rfl) (by kernel_rfl) (fun _ _ _ h => h) (Or.inl ⟨by rfl, ?hy43⟩) (by assumption) ?rest43
          case hy43 => (intro wz hSw; (try dsimp only at hSw); first | (go_simp; done) | (go_simp; with_reducible rfl))
          try simp only [Act.put, List.getElem_toArray, List.getElem_cons_succ, List.getElem_cons_zero, List.setIfInBounds_toArray, List.set_cons_zero, List.set_cons_succ]
          refine wpAnyH_take (i := 22) (v := ?v44) rfl (by kernel_rfl) (by kernel_rfl) (by kernel_rfl) (fun _ _ _ h => h) (Or.inl ⟨by rfl, ?hy44⟩) (by assumption) ?rest44
          case hy44 => (intro wz hSw; (try dsimp only at hSw); first | (go_simp; done) | (go_simp; with_reducible rfl))
          try simp only [Act.put, List.getElem_toArray, List.getElem_cons_succ, List.getElem_cons_zero, List.setIfInBounds_toArray, List.set_cons_zero, List.set_cons_succ]
          refine wpAnyH_done (by kernel_rfl) ?_ _
          clear hH1
          have GX := Lib.hid (gb_trans G.out H1.out)
          clear d0 d1 c0 c1
          go_wp2
          go_roundw
          case rel => exact ⟨j + 1, by omega, by first | rfl | (congr 1), NX.out, GX.out⟩
          case measure => simp [intOf]; omega
      · have X : ((ep.length : Int) == (m : Int)) = false := by rw [beq_eq_false_iff_ne]; omega
        have NX := Lib.hid (show j + 1 ≤ findL p L from by
          rcases Nat.lt_or_ge j (findL p L) with k | k
          · omega
          · have e : findL p L = j := by have := JF.out; omega
            have q := findL_at (p := p) (L := L) (by rw [e]; exact HJL.out)
            have q2 : (L[j]'HJL.out).1 = p := by rw [← q]; congr 2; exact e.symm
            exact absurd (by rw [← (HEQ.out HJL.out), q2]; exact HP.out) hl)
        generalize ep.length = el at *
        generalize E wi ep = ev at *
        clear hl
        go_upto_region 6 with fail
        go_quiet (fail)
        go_wp2
        go_roundw
        case rel => exact ⟨j + 1, by omega, by first | rfl | (congr 1), NX.out, gb_trans G.out (gb_drewN _ _ _)⟩
        case measure => simp [intOf]; omega
    · obtain rfl : j = n := by omega
      have i1 : ¬ (j : Int) < (j : Int) := by omega
      have FX := Lib.hid (show fv p L = -1 by unfold fv; rw [if_neg (by have := HN.out; have := JF.out; omega)])
      go_wp2
      go_ret
      exact ⟨by rw [FX.out]; rfl, gb_trans G1.out G.out⟩
/-- What is stored with prefix p. -/
def lookL (p : List Bool) (L : List Ent) : Option Int := if h : findL p L < L.length then some (L[findL p L]).2 else none
theorem lookL_mem {wi : Nat} {p : List Bool} {L : List Ent} (hs : Srt wi L) (x : Int) : lookL p L = some x ↔ (p, x) ∈ L := by
  unfold lookL
  constructor
  · intro h
    split at h
    · rename_i k
      injection h with h
      have e := findL_at k
      have m := List.getElem_mem k
      rw [show L[findL p L] = (p, x) from Prod.ext e h] at m
      exact m
    · cases h
  · intro h
    obtain ⟨j, hj, e⟩ := List.getElem_of_mem h
    have k : findL p L ≤ j := by
      rcases Nat.lt_or_ge j (findL p L) with q | q
      · exact absurd (by rw [e]) (findL_no hj q)
      · exact q
    have k2 : findL p L < L.length := by omega
    rw [dif_pos k2]
    have e2 := srt_nodup hs k2 hj (by rw [findL_at k2, e])
    have : L[findL p L] = (p, x) := by rw [← e]; congr 1
    rw [this]
theorem lookL_T {wi : Nat} {T : Tr} (h : Ok wi [] T) (p : List Bool) : lookL p (ents T) = getT p T := by
  cases hg : getT p T with
  | some x => exact (lookL_mem h.sorted x).2 ((get_mem p x T h).2 hg)
  | none =>
    cases hl : lookL p (ents T) with
    | none => rfl
    | some x => have := (get_mem p x T h).1 ((lookL_mem h.sorted x).1 hl); rw [hg] at this; cases this
set_option maxRecDepth 100000 in
set_option maxHeartbeats 4000000 in
theorem rget_bad (w : World) (v wi : Nat) (m : Int) (a : Option Addr) (n c : Nat) (h2 : wi ≤ 32) (hv : v < 4294967296) (hn : ¬ (v < 2 ^ wi ∧ 0 ≤ m ∧ m ≤ wi)) : Calls Try.prog 18 #[.agg #[.int .i64 wi, .slice a n c], .int .u32 v, .int .i64 m] w (RetV (getV none) w) := by
  have FI := Lib.hid (fun W => rfind_bad W v wi m a n c h2 hv hn)
  have G1 := Lib.hid (gb_alloc w (.cells #[.int .i64 wi, .slice a n c] 30) none)
  have B1 := Lib.hid (IsB.new w 30 #[.int .i64 wi, .slice a n c])
  have B0 := (B1.out).cell 0
  have B01 := (B1.out).cell 1
  dsimp at B0 B01
  clear h2 hv hn
  go_enter Try.func18, Try.ntmps18
  go_wp2_with fail
  refine (FI.out _).mono ?_
  rintro e w2 ⟨rfl, g⟩
  have G2 := Lib.hid (gb_trans G1.out g)
  clear g
  go_wp2
  go_ret2
  exact ⟨rfl, G2.out⟩
set_option maxRecDepth 100000 in
set_option maxHeartbeats 4000000 in
theorem rget_any (w : World) (v wi m : Nat) (base : Nat) (a : Option Addr) (n c : Nat) (L : List Ent) (p : List Bool) (h1 : 1 ≤ wi) (h2 : wi ≤ 32) (hv : v < 2 ^ wi) (hm : m ≤ wi) (hp : p = (bitsN wi v).take m) (h : RI w base (.slice a n c) wi L) (hn : n = L.length) (hf : Few wi L) (hL : n ≤ 100000) :
    Calls Try.prog 18 #[.agg #[.int .i64 wi, .slice a n c], .int .u32 v, .int .i64 m] w (RetV (getV (lookL p L)) w) := by
  have FI := Lib.hid (fun (W : World) (k : w.grownBy W none) => rfind_any W v wi m base a n c L p h1 h2 hv hm hp (h.keep0 k) hn hf hL)
  have SS := Lib.hid (fun (W : World) (k : w.grownBy W none) => own_s3 hn (h.keep0 k))
  have SO := Lib.hid (fun (k : 0 < n) => own_some (by subst hn; exact h) k)
  have HN := Lib.hid hn
  have G1 := Lib.hid (gb_alloc w (.cells #[.int .i64 wi, .slice a n c] 30) none)
  have B1 := Lib.hid (IsB.new w 30 #[.int .i64 wi, .slice a n c])
  have B0 := Lib.hid (fun (W : World) (k : (w.alloc (.cells #[.int .i64 wi, .slice a n c] 30)).grownBy W none) => (⟨(B1.out.keep0 k).cell 0, (B1.out.keep0 k).cell 1⟩ : W.cell? ⟨w.heap.size, 0, none⟩ = some (.int .i64 wi) ∧ W.cell? ⟨w.heap.size, 1, none⟩ = some (.slice a n c)))
  have b0 := (B0.out _ (gb_refl _ _)).1
  have b1 := (B0.out _ (gb_refl _ _)).2
  clear h1 h2 hv hm hp h hn hf hL
  by_cases hk : findL p L < L.length
  · have HK := Lib.hid hk
    obtain ⟨j, hj⟩ : ∃ j, j = findL p L := ⟨_, rfl⟩
    have FV : fv p L = (j : Int) := by unfold fv; rw [if_pos hk, hj]
    have hjl : j < L.length := by omega
    have LK := Lib.hid (show lookL p L = some (L[j]).2 by unfold lookL; rw [dif_pos hk]; congr 2; subst hj; rfl)
    obtain ⟨b, rfl⟩ := SO.out (by have := HN.out; omega)
    obtain ⟨x, hx⟩ : ∃ x, x = (L[j]).2 := ⟨_, rfl⟩
    have C2 := Lib.hid (fun (W : World) (k : w.grownBy W none) => (((SS.out W k).at_ (itI_3 wi) j hjl).2.2.trans (by rw [hx]; rfl) : W.cell? ⟨b, j * 3 + 2, none⟩ = some (.int .i64 x)))
    rw [← hx] at LK
    rw [FV] at FI
    have i0 : ¬ (j : Int) < 0 := by omega
    have i1 : (0 : Int) ≤ (j : Int) := by omega
    have i2 : (j : Int) < n := by have := HN.out; omega
    rw [LK.out]
    clear hk FV hj hx hjl
    go_enter Try.func18, Try.ntmps18
    go_wp2_with fail
    refine (FI.out _ G1.out).mono ?_
    rintro e w2 ⟨rfl, g⟩
    have G2 := Lib.hid (gb_trans G1.out g)
    have c2 := C2.out _ G2.out
    have c1 := (B0.out _ g).2
    clear g b0 b1
    go_wp2
    go_ret2
    exact ⟨rfl, G2.out⟩
  · have FV : fv p L = -1 := by unfold fv; rw [if_neg hk]
    have LK : lookL p L = none := by unfold lookL; rw [dif_neg hk]
    rw [FV] at FI
    rw [LK]
    clear hk FV LK
    go_enter Try.func18, Try.ntmps18
    go_wp2_with fail
    refine (FI.out _ G1.out).mono ?_
    rintro e w2 ⟨rfl, g⟩
    have G2 := Lib.hid (gb_trans G1.out g)
    clear g b0 b1
    go_wp2
    go_ret2
    exact ⟨rfl, G2.out⟩
/-- The longest prefix of k that is stored, of length at most n. -/
def lonR (k : List Bool) (L : List Ent) : Nat → Option Ent
  | 0 => (lookL [] L).map fun x => ([], x)
  | n + 1 => match lookL (k.take (n + 1)) L with
    | some x => some (k.take (n + 1), x)
    | none => lonR k L n
theorem lonR_is {wi : Nat} {k : List Bool} {L : List Ent} (hs : Srt wi L) : ∀ n, n ≤ k.length → (match lonR k L n with
    | none => ∀ e ∈ L, e.1 <+: k → n < e.1.length
    | some e => e ∈ L ∧ e.1 <+: k ∧ ∀ f ∈ L, f.1 <+: k → f.1.length ≤ n → f.1.length ≤ e.1.length)
  | 0, _ => by
    simp only [lonR]
    cases h : lookL [] L with
    | some x => exact ⟨(lookL_mem hs x).1 h, List.nil_prefix, fun f _ _ q => q⟩
    | none =>
      intro e he hk
      rcases Nat.eq_zero_or_pos e.1.length with q | q
      · have e0 : e.1 = [] := List.length_eq_zero_iff.1 q
        have := (lookL_mem (p := []) hs e.2).2 (by rw [← e0]; exact he)
        rw [h] at this; cases this
      · exact q
  | n + 1, hn => by
    simp only [lonR]
    cases h : lookL (k.take (n + 1)) L with
    | some x =>
      refine ⟨(lookL_mem hs x).1 h, List.take_prefix _ _, ?_⟩
      intro f _ _ q
      have e : (k.take (n + 1)).length = n + 1 := by rw [List.length_take]; omega
      show f.1.length ≤ (k.take (n + 1)).length
      omega
    | none =>
      have ih := lonR_is (k := k) hs n (by omega)
      have no : ∀ f ∈ L, f.1 <+: k → f.1.length ≠ n + 1 := fun f hf hk q => by
        have e : f.1 = k.take (n + 1) := by rw [← q]; exact List.prefix_iff_eq_take.1 hk
        have := (lookL_mem (p := k.take (n + 1)) hs f.2).2 (by rw [← e]; exact hf)
        rw [h] at this; cases this
      cases hr : lonR k L n with
      | none => rw [hr] at ih; exact fun e he hk => by have := ih e he hk; have := no e he hk; omega
      | some e => rw [hr] at ih; exact ⟨ih.1, ih.2.1, fun f hf hk q => ih.2.2 f hf hk (by have := no f hf hk; omega)⟩
theorem lonR_T {wi : Nat} {T : Tr} (h : Ok wi [] T) {k : List Bool} (hk : k.length = wi) : lonR k (ents T) wi = lonT k T none := by
  have a := lonR_is (k := k) h.sorted wi (by omega)
  have b := lon_is k T h
  cases hr : lonR k (ents T) wi with
  | none =>
    rw [hr] at a
    cases ht : lonT k T none with
    | none => rfl
    | some e => rw [ht] at b; have := a e b.1 b.2.1; have := (Ok.ent h e b.1).2; omega
  | some e =>
    rw [hr] at a
    cases ht : lonT k T none with
    | none => rw [ht] at b; exact absurd a.2.1 (b e a.1)
    | some f =>
      rw [ht] at b
      have l1 := a.2.2 f b.1 b.2.1 (Ok.ent h f b.1).2
      have l2 := b.2.2 e a.1 a.2.1
      have e1 : e.1 = f.1 := by
        rw [List.prefix_iff_eq_take.1 a.2.1, List.prefix_iff_eq_take.1 b.2.1, show e.1.length = f.1.length by omega]
      have e2 : e.2 = f.2 := srt_val (p := e.1) h.sorted a.1 (by rw [e1]; exact b.1)
      rw [show e = f from Prod.ext e1 e2]
/-- The same, counted from one more. -/
def lonS (k : List Bool) (L : List Ent) : Nat → Option Ent
  | 0 => none
  | j + 1 => match lookL (k.take j) L with
    | some x => some (k.take j, x)
    | none => lonS k L j
theorem lonS_R (k : List Bool) (L : List Ent) (n : Nat) : lonS k L (n + 1) = lonR k L n := by
  induction n with
  | zero => simp only [lonS, lonR, List.take_zero]; cases lookL [] L <;> rfl
  | succ n ih => rw [lonS, lonR, ih]
set_option maxRecDepth 100000 in
set_option maxHeartbeats 4000000 in
theorem rlook_any (w : World) (v wi : Nat) (base : Nat) (a : Option Addr) (n c : Nat) (L : List Ent) (h1 : 1 ≤ wi) (h2 : wi ≤ 32) (hv : v < 2 ^ wi) (h : RI w base (.slice a n c) wi L) (hn : n = L.length) (hf : Few wi L) (hL : n ≤ 100000) :
    Calls Try.prog 25 #[.agg #[.int .i64 wi, .slice a n c], .int .u32 v] w (RetV (triV (lonR (bitsN wi v) L wi)) w) := by
  have GT := Lib.hid (fun (W : World) (k : w.grownBy W none) (j : Nat) (hj : j ≤ wi) => rget_any W v wi j base a n c L _ h1 h2 hv hj rfl (h.keep0 k) hn hf hL)
  have HW := Lib.hid h2
  obtain ⟨o, ho⟩ : ∃ o, o = lonR (bitsN wi v) L wi := ⟨_, rfl⟩
  have HO := Lib.hid ho
  have BL := Lib.hid (bits_len wi v)
  rw [← ho]
  have G1 := Lib.hid (gb_alloc w (.cells #[.int .i64 wi, .slice a n c] 30) none)
  have B1 := Lib.hid (IsB.new w 30 #[.int .i64 wi, .slice a n c])
  have B0 := Lib.hid (fun (W : World) (k : (w.alloc (.cells #[.int .i64 wi, .slice a n c] 30)).grownBy W none) => (⟨(B1.out.keep0 k).cell 0, (B1.out.keep0 k).cell 1⟩ : W.cell? ⟨w.heap.size, 0, none⟩ = some (.int .i64 wi) ∧ W.cell? ⟨w.heap.size, 1, none⟩ = some (.slice a n c)))
  have b0 := (B0.out _ (gb_refl _ _)).1
  have b1 := (B0.out _ (gb_refl _ _)).2
  clear h1 h2 hv h hn hf hL ho
  go_enter Try.func25, Try.ntmps25
  go_upto_region 1 with fail
  generalize w.alloc (.cells #[.int .i64 wi, .slice a n c] 30) = w1 at *
  obtain ⟨z, hz⟩ : ∃ x, x = w.heap.size := ⟨_, rfl⟩
  rw [← hz] at B1 B0 b0 b1 ⊢
  clear hz
  go_wp2
  clear b0 b1
  go_loopw [7] (fun i wr => ∃ j : Nat, j ≤ wi + 1 ∧ i = .int .i64 ((j : Int) - 1) ∧ lonS (bitsN wi v) L j = o ∧ w1.grownBy wr none) (fun i _ => (intOf i + 1).toNat)
  case atStart => exact ⟨wi + 1, Nat.le_refl _, by first | rfl | (congr 1; omega), (lonS_R _ _ _).trans HO.out.symm, gb_refl _ _⟩
  case round =>
    obtain ⟨j, hj, rfl, hr, hg⟩ := hrel
    have G := Lib.hid hg
    have RR := Lib.hid hr
    have c0 := (B0.out _ hg).1
    have c1 := (B0.out _ hg).2
    clear hg hr
    cases j with
    | zero =>
      have i0 : ¬ (0 : Int) ≤ ((0 : Nat) : Int) - 1 := by omega
      have E := Lib.hid (show triV o = triV none by rw [← RR.out]; rfl)
      go_wp2
      (try simp only [Exit.inBlock, Exit.then])
      refine bodyPost_ret (v := .tuple #[.int .i64 0, .int .i64 0, .bool false]) (by rw [results3 rfl]; rfl) rfl ⟨by rw [E.out]; rfl, gb_trans G1.out G.out⟩
    | succ j =>
      rw [show (((j + 1 : Nat) : Int) - 1) = (j : Int) by omega]
      have i0 : (0 : Int) ≤ (j : Int) := by omega
      have hw : IntKind.i64.wrap ((j : Int) - 1) = (j : Int) - 1 := by have := HW.out; rw [IntKind.wrap_i64]; omega
      have GJ := Lib.hid (GT.out _ (gb_trans G1.out G.out) j (by omega))
      cases hl : lookL ((bitsN wi v).take j) L with
      | some x =>
        rw [hl] at GJ
        have E := Lib.hid (show triV o = .tuple #[.int .i64 x, .int .i64 j, .bool true] by
          rw [← RR.out]
          simp only [lonS, hl]
          simp only [triV]
          rw [List.length_take, BL.out, Nat.min_eq_left (by omega)])
        clear hl
        simp only [getV] at GJ
        go_wp2_with fail
        refine GJ.out.mono ?_
        rintro e w2 ⟨rfl, g⟩
        have G2 := Lib.hid (gb_trans G.out g)
        clear g c0 c1
        go_wp2
        (try simp only [Exit.inBlock, Exit.then])
        refine bodyPost_ret (v := .tuple #[.int .i64 x, .int .i64 j, .bool true]) (by rw [results3 rfl]; rfl) rfl ⟨by rw [E.out], gb_trans G1.out G2.out⟩
      | none =>
        rw [hl] at GJ
        have E := Lib.hid (show lonS (bitsN wi v) L j = o by rw [← RR.out]; simp only [lonS, hl])
        clear hl
        simp only [getV] at GJ
        go_wp2_with fail
        refine GJ.out.mono ?_
        rintro e w2 ⟨rfl, g⟩
        have G2 := Lib.hid (gb_trans G.out g)
        clear g c0 c1
        go_wp2
        go_roundw
        case rel => exact ⟨j, by omega, rfl, E.out, G2.out⟩
        case measure => simp [intOf]
set_option maxRecDepth 100000 in
set_option maxHeartbeats 4000000 in
theorem rlook_bad (w : World) (v wi : Nat) (a : Option Addr) (n c : Nat) (h2 : wi ≤ 32) (hv : v < 4294967296) (hn : ¬ v < 2 ^ wi) : Calls Try.prog 25 #[.agg #[.int .i64 wi, .slice a n c], .int .u32 v] w (RetV (triV none) w) := by
  have GT := Lib.hid (fun (W : World) (j : Nat) => rget_bad W v wi j a n c h2 hv (fun k => hn k.1))
  have HW := Lib.hid h2
  have G1 := Lib.hid (gb_alloc w (.cells #[.int .i64 wi, .slice a n c] 30) none)
  have B1 := Lib.hid (IsB.new w 30 #[.int .i64 wi, .slice a n c])
  have B0 := Lib.hid (fun (W : World) (k : (w.alloc (.cells #[.int .i64 wi, .slice a n c] 30)).grownBy W none) => (⟨(B1.out.keep0 k).cell 0, (B1.out.keep0 k).cell 1⟩ : W.cell? ⟨w.heap.size, 0, none⟩ = some (.int .i64 wi) ∧ W.cell? ⟨w.heap.size, 1, none⟩ = some (.slice a n c)))
  have b0 := (B0.out _ (gb_refl _ _)).1
  have b1 := (B0.out _ (gb_refl _ _)).2
  clear h2 hv hn
  go_enter Try.func25, Try.ntmps25
  go_upto_region 1 with fail
  generalize w.alloc (.cells #[.int .i64 wi, .slice a n c] 30) = w1 at *
  obtain ⟨z, hz⟩ : ∃ x, x = w.heap.size := ⟨_, rfl⟩
  rw [← hz] at B1 B0 b0 b1 ⊢
  clear hz
  go_wp2
  clear b0 b1
  go_loopw [7] (fun i wr => ∃ j : Nat, j ≤ wi + 1 ∧ i = .int .i64 ((j : Int) - 1) ∧ True ∧ w1.grownBy wr none) (fun i _ => (intOf i + 1).toNat)
  case atStart => exact ⟨wi + 1, Nat.le_refl _, by first | rfl | (congr 1; omega), trivial, gb_refl _ _⟩
  case round =>
    obtain ⟨j, hj, rfl, hr, hg⟩ := hrel
    have G := Lib.hid hg
    have RR := Lib.hid hr
    have c0 := (B0.out _ hg).1
    have c1 := (B0.out _ hg).2
    clear hg hr
    cases j with
    | zero =>
      have i0 : ¬ (0 : Int) ≤ ((0 : Nat) : Int) - 1 := by omega
      have E := Lib.hid (show triV none = triV none from rfl)
      go_wp2
      (try simp only [Exit.inBlock, Exit.then])
      refine bodyPost_ret (v := .tuple #[.int .i64 0, .int .i64 0, .bool false]) (by rw [results3 rfl]; rfl) rfl ⟨rfl, gb_trans G1.out G.out⟩
    | succ j =>
      rw [show (((j + 1 : Nat) : Int) - 1) = (j : Int) by omega]
      have i0 : (0 : Int) ≤ (j : Int) := by omega
      have hw : IntKind.i64.wrap ((j : Int) - 1) = (j : Int) - 1 := by have := HW.out; rw [IntKind.wrap_i64]; omega
      go_wp2_with fail
      refine (GT.out _ j).mono ?_
      rintro e w2 ⟨rfl, g⟩
      have G2 := Lib.hid (gb_trans G.out g)
      clear g c0 c1
      simp only [getV]
      go_wp2
      go_roundw
      case rel => exact ⟨j, by omega, rfl, trivial, G2.out⟩
      case measure => simp [intOf]
end Go.Proofs.Ytidjggaffioekaa
