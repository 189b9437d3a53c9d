/- The examples of chapter 2 hold: the walk of works; strings of bytes; equal lists; no condition but sizes. -/
import Derived.Test.YtgknooblnpmloaaIoV
namespace Go.Proofs.Ytgknooblnpmloaa
open Go.RowKit
set_option linter.unusedVariables false

/-- The string that bytes make. -/
def strOf (bs : List Int) : ByteArray := bs.foldl (fun r n => r.push (UInt8.ofNat n.toNat)) ByteArray.empty
theorem own_slr {w : World} {base : Nat} {e : TypeId} {a : Option Addr} {n c : Nat} {xs : List Value} (h : w.ownsRow base e 1 (.slice a n c) n xs) : SlR w a n c xs := by
  refine ⟨by simpa using h.1, ?_, ?_⟩
  · intro ha; subst ha
    rcases h.2 with ⟨k, rfl⟩ | ⟨g, cap, cur, k, _⟩
    · injection k with _ _ kc; exact ⟨rfl, kc⟩
    · injection k with k; cases k
  · intro ad ha j u hu; subst ha
    rcases h.2 with ⟨k, rfl⟩ | ⟨g, cap, cur, k, _⟩
    · injection k with k; cases k
    · injection k with k; injection k with k; subst k
      exact h.cells (g := g) rfl j u hu
theorem conv_str (w : World) (a : Option Addr) (n c : Nat) (bs : List Int) (h : SlR w a n c (bs.map (Value.int .u8))) :
    (convert 33 9 (.slice a n c)).run Try.prog w = .ok (.string (strOf bs)) w := by
  rw [run_convert_bytes_string w 33 9 5 a n c Try.underlying33 Try.underlying5 Try.underlying9]
  have hl : bs.length = n := by simpa using h.1
  subst hl
  cases a with
  | none =>
    obtain ⟨h0, rfl⟩ := h.2.1 rfl
    have hbs : bs = [] := List.length_eq_zero_iff.1 h0
    subst hbs
    simp [Conv.bytesToString, strOf, Sem.run_pure]
  | some ad =>
    have k := run_loadCells_list (P := Try.prog) (w := w) ad (bs.map (Value.int .u8)) (h.2.2 ad rfl)
    rw [List.length_map] at k
    exact run_bytesToString w ad bs.length c bs k

theorem equ_same (w : World) (a a2 : Option Addr) (n n2 c c2 : Nat) (xs : List Int) (h : SlR w a n c (xs.map (Value.int .u32))) (h2 : SlR w a2 n2 c2 (xs.map (Value.int .u32))) (hn : xs.length ≤ 60000) :
    Calls Try.prog 22 #[.slice a n c, .slice a2 n2 c2] w (RetQ (.bool true) w none fun _ => True) := by
  have e1 : xs.length = n := by simpa using h.1
  have e2 : xs.length = n2 := by simpa using h2.1
  subst e1; subst e2
  have h0 : ((xs.length : Int) != xs.length) = false := by simp
  go_enter Try.func22, Try.ntmps22
  go_wp2
  go_loopw [5] (fun i wr => ∃ k : Nat, k ≤ xs.length ∧ i = .int .i64 k ∧ w.grownBy wr none) (fun i _ => xs.length - (intOf i).toNat)
  case atStart => exact ⟨0, Nat.zero_le _, rfl, gb_refl _ _⟩
  case round =>
    obtain ⟨k, hk, rfl, hg⟩ := hrel
    have HG := Lib.hid hg
    clear hg
    by_cases hlt : k < xs.length
    · cases a with
      | none => exact absurd (h.2.1 rfl).1 (by omega)
      | some ad =>
        cases a2 with
        | none => exact absurd (h2.2.1 rfl).1 (by omega)
        | some ad2 =>
          have c1 := (h.keep0 HG.out).cellAt k hlt
          have c2 := (h2.keep0 HG.out).cellAt k hlt
          generalize xs.getD k 0 = x at *
          have hi : (k : Int) < xs.length := by omega
          have hx : (x != x) = false := by simp
          go_wp2
          go_quiet (fail)
          go_wp2
          go_roundw
          case rel => exact ⟨k + 1, by omega, by go_num, gb_trans HG.out (gb_drewN _ _ _)⟩
          case measure => simp [intOf]; omega
    · go_wp2
      go_ret
      exact ⟨rfl, HG.out, trivial⟩

theorem slr_new (w : World) (k : IntKind) (zs : List Int) (t : TypeId) : SlR (w.alloc (.cells (zs.map (Value.int k)).toArray t)) (some ⟨w.heap.size, 0, none⟩) zs.length zs.length (zs.map (Value.int k)) := by
  refine ⟨by simp, by simp, ?_⟩
  intro ad ha j u hu
  injection ha with ha; subst ha
  have e : ((⟨w.heap.size, 0, none⟩ : Addr).add j) = ⟨w.heap.size, j, none⟩ := by unfold Addr.add; split <;> simp_all
  rw [e, (IsB.new w t _).cell j]
  simpa using hu
theorem SlR.alloc {w : World} {a : Option Addr} {n c : Nat} {xs : List Value} (h : SlR w a n c xs) (o : Obj) : SlR (w.alloc o) a n c xs := h.keep0 (gb_alloc w o none)

theorem slr_two (w : World) (k : IntKind) (x y : Int) (t : TypeId) (g : Nat) (hg : g = w.heap.size) : SlR (w.alloc (.cells #[.int k x, .int k y] t)) (some ⟨g, 0, none⟩) 2 2 ([x, y].map (Value.int k)) := by
  subst hg; exact slr_new w k [x, y] t
theorem gb_of_below {w w2 : World} (k : Below w.heap.size w w2) : w.grownBy w2 none := ⟨k.os, k.tape, k.output, k.size, fun i hi _ => k.block i hi⟩
theorem below_step {B : Nat} {a b c : World} (h : Below B a b) (hB : B ≤ b.heap.size) (k : Below b.heap.size b c) : Below B a c := h.trans (k.mono hB)

end Go.Proofs.Ytgknooblnpmloaa
