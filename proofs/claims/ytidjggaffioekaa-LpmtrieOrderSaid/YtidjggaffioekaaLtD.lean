/- Tries: get. -/
import Derived.Test.YtidjggaffioekaaLtC
namespace Go.Proofs.Ytidjggaffioekaa
open Go.RowKit
set_option linter.unusedVariables false

/-- The node that get answers. -/
def fgt (p : List Bool) : Tr → Value
  | .nil => .pointer none
  | .node b q st _ _ _ => if q = p ∧ st = true then .pointer (some ⟨b, 0, none⟩) else .pointer none
set_option maxRecDepth 100000 in
set_option maxHeartbeats 4000000 in
theorem sget_bad (W w : World) (q s wd v : Nat) (T : Tr) (n : Int) (h : LS W q s wd T w) (hn : ¬ (v < 2 ^ wd ∧ 0 ≤ n ∧ n ≤ wd)) : Calls Try.prog 34 #[.pointer (some ⟨s, 0, none⟩), .int .u32 v, .int .i64 n] w (RetV (.pointer none) w) := by
  have PB := Lib.hid (fun (W2 : World) (k : w.grownBy W2 none) => pre_bad W2 s wd v n ((h.keep0 k).sv.cell 0) h.w1 h.w2 hn)
  clear h hn
  go_enter Try.func34, Try.ntmps34
  go_wp2_with fail
  refine (PB.out _ (gb_refl _ _)).mono ?_
  rintro e w1 ⟨rfl, g⟩
  have G := Lib.hid g
  clear g
  go_wp2
  go_ret
  exact ⟨rfl, gb_trans G.out (gb_alloc _ _ _)⟩
theorem ne_parts {wd : Nat} {p q : List Bool} (hp : p.length ≤ wd) (hq : q.length ≤ wd) (h : q ≠ p) : q.length ≠ p.length ∨ q.length = p.length ∧ E wd q ≠ E wd p := by
  by_cases e : q.length = p.length
  · exact .inr ⟨e, fun k => h (E_inj hq hp e k)⟩
  · exact .inl e
theorem sub_ok {wd : Nat} {T : Tr} (p : List Bool) (h : Ok wd [] T) {b : Nat} {q : List Bool} {st : Bool} {x : Int} {l r : Tr} (e : sub T (desc p T) = .node b q st x l r) : q.length ≤ wd := by
  obtain ⟨_, _, k, _⟩ := put_ok p T [] h List.nil_prefix
  rw [e] at k; exact k.2.1
theorem sub_tn {w : World} {wd : Nat} : ∀ (T : Tr) (p : List Bool), TN w wd T → TN w wd (sub T p)
  | T, [], h => by cases T <;> exact h
  | .nil, _ :: _, _ => trivial
  | .node b q st x l r, c :: t, h => by
    cases c
    · simpa [sub] using sub_tn l t h.2.1
    · simpa [sub] using sub_tn r t h.2.2
set_option maxRecDepth 100000 in
set_option maxHeartbeats 4000000 in
theorem sget_ok (W w : World) (q s wd v n : Nat) (T : Tr) (p : List Bool) (h : LS W q s wd T w) (hv : v < 2 ^ wd) (hn : n ≤ wd) (hp : p = (bitsN wd v).take n) : Calls Try.prog 34 #[.pointer (some ⟨s, 0, none⟩), .int .u32 v, .int .i64 n] w (RetV (fgt p (sub T (desc p T))) w) := by
  have pl : p.length = n := by rw [hp, List.length_take, bits_len]; omega
  have PO := Lib.hid (fun (W2 : World) (k : w.grownBy W2 none) => pre_ok W2 s wd v n ((h.keep0 k).sv.cell 0) h.w1 h.w2 hv hn)
  rw [← hp] at PO
  have PL := Lib.hid (fun (W2 : World) (k : w.grownBy W2 none) => place_any W2 s wd p T ((h.keep0 k).sv.cell 0) ((h.keep0 k).sv.cell 1) (h.keep0 k).tn h.ok h.w1 h.w2 (by omega))
  rw [pl] at PL
  have CL := Lib.hid (fun (W2 : World) (k : w.grownBy W2 none) => hole_cell T (desc p T) s 1 (desc_in p T) (h.keep0 k).tn ((h.keep0 k).sv.cell 1))
  have ST := Lib.hid (fun (W2 : World) (k : w.grownBy W2 none) => sub_tn T (desc p T) (h.keep0 k).tn)
  have SO := Lib.hid (fun (b : Nat) (q : List Bool) (st : Bool) (x : Int) (l r : Tr) (e : sub T (desc p T) = .node b q st x l r) => sub_ok p h.ok e)
  have NE := Lib.hid (fun (q : List Bool) (hq : q.length ≤ wd) (hne : q ≠ p) => ne_parts (by omega) hq hne)
  rw [pl] at NE
  have HP := Lib.hid pl
  obtain ⟨P1, hP1⟩ : ∃ x, x = (hole s 1 T (desc p T)).1 := ⟨_, rfl⟩
  obtain ⟨P2, hP2⟩ : ∃ x, x = (hole s 1 T (desc p T)).2 := ⟨_, rfl⟩
  rw [← hP1, ← hP2] at PL CL
  generalize sub T (desc p T) = S at *
  clear h hv hn hp hP1 hP2 pl
  go_enter Try.func34, Try.ntmps34
  go_wp2_with fail
  refine (PO.out _ (gb_refl _ _)).mono ?_
  rintro e w1 ⟨rfl, g⟩
  have G1 := Lib.hid (gb_trans g (gb_alloc _ (.cells #[.int .u32 (E wd p), .int .i64 n] 79) none))
  have B1 := Lib.hid (IsB.new w1 79 #[.int .u32 (E wd p), .int .i64 n])
  clear g
  go_upto_region 4 with fail
  generalize w1.alloc (.cells #[.int .u32 (E wd p), .int .i64 n] 79) = w2 at *
  obtain ⟨z, hz⟩ : ∃ z, z = w1.heap.size := ⟨_, rfl⟩
  rw [← hz] at B1 ⊢
  clear hz
  have b0 := B1.out.cell 0
  have b1 := B1.out.cell 1
  dsimp at b0 b1
  go_wp2_with fail
  refine (PL.out _ G1.out).mono ?_
  rintro e w3 ⟨rfl, g⟩
  have G3 := Lib.hid (gb_trans G1.out g)
  have B3 := Lib.hid (B1.out.keep0 g)
  have c := CL.out _ G3.out
  have TS := Lib.hid (ST.out _ G3.out)
  clear g b0 b1 PL PO CL ST
  have d0 := B3.out.cell 0
  have d1 := B3.out.cell 1
  dsimp at d0 d1
  cases S with
  | nil =>
    rw [show ptr Tr.nil = .pointer none from rfl] at c
    go_wp2
    go_quiet (fail)
    go_wp2
    go_ret
    exact ⟨rfl, gb_trans G3.out (gb_drewN _ _ _)⟩
  | node b q st x l r =>
    rw [show ptr (.node b q st x l r) = .pointer (some ⟨b, 0, none⟩) from rfl] at c
    have n0 := TS.out.1.cell 0
    have n1 := TS.out.1.cell 1
    have n2 := TS.out.1.cell 2
    dsimp at n0 n1 n2
    have QO := Lib.hid (SO.out _ _ _ _ _ _ rfl)
    by_cases hq : q = p
    · subst hq
      rw [HP.out] at n1
      have DE : decide (q = q) = true := by simp
      cases st
      · go_wp2
        go_quiet (fail)
        go_wp2
        go_ret
        exact ⟨by simp [fgt], gb_trans G3.out (gb_drewN _ _ _)⟩
      · go_wp2
        go_quiet (fail)
        go_wp2
        go_ret
        exact ⟨by simp [fgt], gb_trans G3.out (gb_drewN _ _ _)⟩
    · have RS := Lib.hid (show fgt p (.node b q st x l r) = .pointer none from if_neg fun k => hq k.1)
      rcases NE.out q QO.out hq with k | ⟨k, k2⟩
      · have e1 : ((q.length : Int) == n) = false := by rw [beq_eq_false_iff_ne]; omega
        generalize q.length = ql at *
        generalize E wd q = eq at *
        generalize E wd p = ep at *
        clear hq k
        go_wp2
        go_quiet (fail)
        go_wp2
        go_ret
        exact ⟨by rw [RS.out]; rfl, gb_trans G3.out (gb_drewN _ _ _)⟩
      · have e1 : (E wd q == E wd p) = false := by rw [beq_eq_false_iff_ne]; exact k2
        generalize q.length = ql at *
        generalize E wd q = eq at *
        generalize E wd p = ep at *
        clear hq k k2
        go_wp2
        go_quiet (fail)
        go_wp2
        go_ret
        exact ⟨by rw [RS.out]; rfl, gb_trans G3.out (gb_drewN _ _ _)⟩
end Go.Proofs.Ytidjggaffioekaa
