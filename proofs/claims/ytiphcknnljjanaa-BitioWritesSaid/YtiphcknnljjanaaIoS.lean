/- The examples of chapter 2 hold: the walk of works; strings of bytes; equal lists; no condition but sizes. -/
import Derived.Test.YtiphcknnljjanaaIoV
namespace Go.Proofs.Ytiphcknnljjanaa
open Go.RowKit
set_option linter.unusedVariables false

/-- The string that bytes make. -/
def strOf (bs : List Int) : ByteArray := bs.foldl (fun r n => r.push (UInt8.ofNat n.toNat)) ByteArray.empty
theorem own_slr {w : World} {base : Nat} {e : TypeId} {a : Option Addr} {n c : Nat} {xs : List Value} (h : w.ownsRow base e 1 (.slice a n c) n xs) : SlR w a n c xs := by
  refine ⟨by simpa using h.1, ?_, ?_⟩
  · intro ha; subst ha
    rcases h.2 with ⟨k, rfl⟩ | ⟨g, cap, cur, k, _⟩
    · injection k with _ _ kc; exact ⟨rfl, kc⟩
    · injection k with k; cases k
  · intro ad ha j u hu; subst ha
    rcases h.2 with ⟨k, rfl⟩ | ⟨g, cap, cur, k, _⟩
    · injection k with k; cases k
    · injection k with k; injection k with k; subst k
      exact h.cells (g := g) rfl j u hu
theorem conv_str (w : World) (a : Option Addr) (n c : Nat) (bs : List Int) (h : SlR w a n c (bs.map (Value.int .u8))) :
    (convert 43 9 (.slice a n c)).run Try.prog w = .ok (.string (strOf bs)) w := by
  rw [run_convert_bytes_string w 43 9 5 a n c Try.underlying43 Try.underlying5 Try.underlying9]
  have hl : bs.length = n := by simpa using h.1
  subst hl
  cases a with
  | none =>
    obtain ⟨h0, rfl⟩ := h.2.1 rfl
    have hbs : bs = [] := List.length_eq_zero_iff.1 h0
    subst hbs
    simp [Conv.bytesToString, strOf, Sem.run_pure]
  | some ad =>
    have k := run_loadCells_list (P := Try.prog) (w := w) ad (bs.map (Value.int .u8)) (h.2.2 ad rfl)
    rw [List.length_map] at k
    exact run_bytesToString w ad bs.length c bs k

theorem equ_same (w : World) (a a2 : Option Addr) (n n2 c c2 : Nat) (xs : List Int) (h : SlR w a n c (xs.map (Value.int .u32))) (h2 : SlR w a2 n2 c2 (xs.map (Value.int .u32))) (hn : xs.length ≤ 60000) :
    Calls Try.prog 62 #[.slice a n c, .slice a2 n2 c2] w (RetQ (.bool true) w none fun _ => True) := by
  have e1 : xs.length = n := by simpa using h.1
  have e2 : xs.length = n2 := by simpa using h2.1
  subst e1; subst e2
  have h0 : ((xs.length : Int) != xs.length) = false := by simp
  go_enter Try.func62, Try.ntmps62
  go_wp2
  go_loopw [5] (fun i wr => ∃ k : Nat, k ≤ xs.length ∧ i = .int .i64 k ∧ w.grownBy wr none) (fun i _ => xs.length - (intOf i).toNat)
  case atStart => exact ⟨0, Nat.zero_le _, rfl, gb_refl _ _⟩
  case round =>
    obtain ⟨k, hk, rfl, hg⟩ := hrel
    have HG := Lib.hid hg
    clear hg
    by_cases hlt : k < xs.length
    · cases a with
      | none => exact absurd (h.2.1 rfl).1 (by omega)
      | some ad =>
        cases a2 with
        | none => exact absurd (h2.2.1 rfl).1 (by omega)
        | some ad2 =>
          have c1 := (h.keep0 HG.out).cellAt k hlt
          have c2 := (h2.keep0 HG.out).cellAt k hlt
          generalize xs.getD k 0 = x at *
          have hi : (k : Int) < xs.length := by omega
          have hx : (x != x) = false := by simp
          go_wp2
          go_quiet (fail)
          go_wp2
          go_roundw
          case rel => exact ⟨k + 1, by omega, by go_num, gb_trans HG.out (gb_drewN _ _ _)⟩
          case measure => simp [intOf]; omega
    · go_wp2
      go_ret
      exact ⟨rfl, HG.out, trivial⟩

theorem slr_new (w : World) (k : IntKind) (zs : List Int) (t : TypeId) : SlR (w.alloc (.cells (zs.map (Value.int k)).toArray t)) (some ⟨w.heap.size, 0, none⟩) zs.length zs.length (zs.map (Value.int k)) := by
  refine ⟨by simp, by simp, ?_⟩
  intro ad ha j u hu
  injection ha with ha; subst ha
  have e : ((⟨w.heap.size, 0, none⟩ : Addr).add j) = ⟨w.heap.size, j, none⟩ := by unfold Addr.add; split <;> simp_all
  rw [e, (IsB.new w t _).cell j]
  simpa using hu
theorem SlR.alloc {w : World} {a : Option Addr} {n c : Nat} {xs : List Value} (h : SlR w a n c xs) (o : Obj) : SlR (w.alloc o) a n c xs := h.keep0 (gb_alloc w o none)

theorem slr_two (w : World) (k : IntKind) (x y : Int) (t : TypeId) (g : Nat) (hg : g = w.heap.size) : SlR (w.alloc (.cells #[.int k x, .int k y] t)) (some ⟨g, 0, none⟩) 2 2 ([x, y].map (Value.int k)) := by
  subst hg; exact slr_new w k [x, y] t
theorem gb_of_below {w w2 : World} (k : Below w.heap.size w w2) : w.grownBy w2 none := ⟨k.os, k.tape, k.output, k.size, fun i hi _ => k.block i hi⟩
theorem below_step {B : Nat} {a b c : World} (h : Below B a b) (hB : B ≤ b.heap.size) (k : Below b.heap.size b c) : Below B a c := h.trans (k.mono hB)

set_option maxRecDepth 100000 in
set_option maxHeartbeats 1000000 in
theorem works_any (W : World) : Calls Try.prog 41 #[] W fun e w' => e = .returned (.bool true) ∧ Below W.heap.size W w' := by
  have p1 := (slr_two W .u32 1 5 22 _ rfl).alloc (.cells #[.int .i64 4, .int .i64 4] 3)
  have p2 := slr_two (W.alloc (.cells #[.int .u32 1, .int .u32 5] 22)) .i64 4 4 3 (W.heap.size + 1) (by simp)
  have hp := pack_any _ _ _ _ [1, 5] [4, 4] p1 _ _ _ p2 (by decide) (by decide)
  rw [show packR [1, 5] [4, 4] = (0, [21]) by decide +kernel] at hp
  have HP := Lib.hid hp
  clear p1 p2 hp
  go_enter Try.func41, Try.ntmps41
  go_wp2_with fail
  refine HP.out.mono ?_
  rintro e w1 ⟨v1, rfl, b1, o1, _⟩
  obtain ⟨g1, c1, rfl⟩ := own_head o1 (by decide)
  have B1 := Lib.hid (show Below W.heap.size W w1 from below_step (((Below.refl W.heap.size W).alloc (Nat.le_refl _) _).alloc (by simp) _) (by simp; omega) b1)
  have O1 := Lib.hid o1
  clear b1 o1 HP
  have HR := Lib.hid (newReader_any _ _ _ _ [18, 52] (slr_two w1 .u8 18 52 5 _ rfl) (by decide))
  go_wp2_with fail
  refine HR.out.mono ?_
  rintro e w2 ⟨r, s, V, rfl, g2, q2, _, _, ls⟩
  have B2 := Lib.hid (show Below W.heap.size W w2 from (B1.out.alloc B1.out.size _).grown g2 (by have := B1.out.size; simp; omega) (by intro k hk; cases hk))
  have O2 := Lib.hid (own_keep0 (O1.out.alloc _) g2)
  have Q2 := Lib.hid q2
  have HM := Lib.hid (reads_any w2 _ r s V [18, 52] 0 12 q2 (by decide) (by decide) (by decide) 0 291 12 (by decide +kernel))
  have LS := Lib.hid (show W.heap.size ≤ s by have := B1.out.size; simp at ls; omega)
  clear g2 q2 ls HR O1 B1
  go_wp2_with fail
  refine HM.out.mono ?_
  rintro e w3 ⟨rfl, g3, q3⟩
  have B3 := Lib.hid (show Below W.heap.size W w3 from B2.out.grown g3 B2.out.size (by intro k hk; injection hk with hk; rw [← hk]; exact LS.out))
  have O3 := Lib.hid (own_keepS O2.out g3 Q2.out.sb (by decide))
  have Q3 := Lib.hid q3
  have p1 := (slr_two w3 .u8 18 52 5 _ rfl).alloc (.cells #[.int .i64 12, .int .i64 4] 3)
  have p2 := slr_two (w3.alloc (.cells #[.int .u8 18, .int .u8 52] 5)) .i64 12 4 3 (w3.heap.size + 1) (by simp)
  have hp := unpack_any _ _ _ _ [18, 52] p1 (by decide) (by decide) _ _ _ [12, 4] p2 (by decide)
  rw [show unpackR [18, 52] [12, 4] = (0, [291, 4]) by decide +kernel] at hp
  have HP := Lib.hid hp
  clear p1 p2 hp g3 q3 O2 Q2 B2
  go_wp2_with fail
  refine HP.out.mono ?_
  rintro e w4 ⟨v4, rfl, b4, o4⟩
  obtain ⟨g4, c4, rfl⟩ := own_head o4 (by decide)
  have k4 := gb_trans (gb_trans (gb_alloc w3 (.cells #[.int .u8 18, .int .u8 52] 5) none) (gb_alloc _ (.cells #[.int .i64 12, .int .i64 4] 3) none)) (gb_of_below b4)
  have B4 := Lib.hid (show Below W.heap.size W w4 from B3.out.grown k4 B3.out.size (by intro k hk; cases hk))
  have S4 := own_slr (own_keep0 O3.out k4)
  have Q4 := Lib.hid (Q3.out.keep0 k4)
  have O4 := Lib.hid o4
  have hs : (convert 43 9 (.slice (some ⟨g1, 0, none⟩) 1 c1)).run Try.prog w4 = .ok (.string ⟨#[21]⟩) w4 := conv_str w4 _ _ _ [21] S4
  have HM2 := Lib.hid (Remaining_any w4 _ r s V [18, 52] 12 Q4.out (by decide) (by decide))
  clear k4 b4 o4 S4 O3 Q3 B3 HP HM
  go_wp2_with fail
  refine HM2.out.mono ?_
  rintro e w5 ⟨rfl, g5, _⟩
  have O5 := Lib.hid (own_slr (own_keep0 O4.out g5))
  have B5 := Lib.hid (B4.out.grown g5 B4.out.size (by intro k hk; cases hk))
  have HM3 := Lib.hid (equ_same _ _ _ _ _ _ _ [291, 4] (O5.out.alloc _) (slr_two w5 .u32 291 4 22 _ rfl) (by decide))
  clear hs g5 O4 B4 HM2
  go_wp2_with fail
  refine HM3.out.mono ?_
  rintro e w6 ⟨rfl, g6, _⟩
  have B6 := Lib.hid ((B5.out.alloc B5.out.size _).grown g6 (by have := B5.out.size; simp; omega) (by intro k hk; cases hk))
  clear g6 HM3 B5 O5
  go_wp2
  go_ret
  exact ⟨rfl, B6.out⟩
end Go.Proofs.Ytiphcknnljjanaa
