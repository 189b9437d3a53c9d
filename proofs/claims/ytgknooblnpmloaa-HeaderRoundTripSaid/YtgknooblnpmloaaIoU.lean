/- The walks of bitio's Unpack: one number; all numbers; no condition but sizes. -/
import Derived.Test.YtgknooblnpmloaaIoQ
namespace Go.Proofs.Ytgknooblnpmloaa
open Go.RowKit
set_option linter.unusedVariables false

theorem infoU32 : (Try.prog.info? 39).map (fun i => (i.zero, i.size, i.bytes)) = some (some (.int .u32 0), 1, 4) := by kernel_rfl

/-- One number read: the error code, the number, the position behind it. -/
def rdStep (bs : List Int) (pos : Nat) (n : Int) : Int × Int × Nat :=
  if okW n then if (pos : Int) + n ≤ 8 * bs.length then (0, accB bs pos n.toNat, pos + n.toNat) else (3, 0, pos) else (10, 0, pos)
theorem rdStep_pos (bs : List Int) (pos : Nat) (n : Int) (h : pos ≤ 8 * bs.length) : (rdStep bs pos n).2.2 ≤ 8 * bs.length := by
  unfold rdStep
  split
  · rename_i h1
    have h2 : 1 ≤ n ∧ n ≤ 32 := of_decide_eq_true h1
    split
    · show pos + n.toNat ≤ 8 * bs.length; omega
    · exact h
  · exact h
theorem reads_any (w : World) (base r s : Nat) (V : Value) (bs : List Int) (pos : Nat) (n : Int) (h : Rdr w base r s V bs pos) (hb : ∀ b ∈ bs, 0 ≤ b ∧ b ≤ 255) (hn : bs.length ≤ 60000) (hp : pos ≤ 8 * bs.length)
    (er v : Int) (pos2 : Nat) (hq : rdStep bs pos n = (er, v, pos2)) :
    Calls Try.prog 18 #[.pointer (some ⟨r, 0, none⟩), .int .i64 n] w (RetQ (.tuple #[.int .u32 v, .int .i64 er]) w (some s) fun w' => Rdr w' base r s V bs pos2) := by
  unfold rdStep at hq
  by_cases hv : okW n = true
  · rw [if_pos hv] at hq
    have h2 : 1 ≤ n ∧ n ≤ 32 := of_decide_eq_true hv
    by_cases hf : (pos : Int) + n ≤ 8 * bs.length
    · rw [if_pos hf] at hq
      simp only [Prod.mk.injEq] at hq
      obtain ⟨rfl, rfl, rfl⟩ := hq
      exact reads_ok w base r s V bs pos n h hb hn h2.1 h2.2 hf
    · rw [if_neg hf] at hq
      simp only [Prod.mk.injEq] at hq
      obtain ⟨rfl, rfl, rfl⟩ := hq
      exact reads_short w base r s V bs pos n h hn h2.1 h2.2 hp (by omega)
  · rw [if_neg hv] at hq
    simp only [Prod.mk.injEq] at hq
    obtain ⟨rfl, rfl, rfl⟩ := hq
    exact reads_width w base r s V bs pos n h (by simpa using hv)

/-- What Unpack holds while it reads. -/
structure Upk (w : World) (B r s br bu : Nat) (V : Value) (bs : List Int) (pos : Nat) (U : Value) (us : List Int) : Prop where
  rd : Rdr w B r s V bs pos
  vr : IsB w br 34 #[.pointer (some ⟨r, 0, none⟩)]
  vu : IsB w bu 44 #[U]
  own : w.ownsRow B 39 1 U us.length (us.map (Value.int .u32))
  ls : B ≤ s
  lu : B ≤ bu
theorem own_two {w : World} {b1 b2 : Nat} {e1 e2 : TypeId} {s1 s2 n1 n2 : Nat} {v1 v2 : Value} {x1 x2 : List Value} (h1 : w.ownsRow b1 e1 s1 v1 n1 x1) (h2 : w.ownsRow b2 e2 s2 v2 n2 x2) (hn : e1 ≠ e2) : v1.ownBlock = none ∨ v1.ownBlock ≠ v2.ownBlock := by
  rcases h2.2 with ⟨rfl, _⟩ | ⟨g, cap, cur, rfl, _, hh, _⟩
  · cases v1.ownBlock with
    | none => exact .inl rfl
    | some k => exact .inr (by simp [Value.ownBlock])
  · exact .inr (own_ne h1 (show IsB w g e2 cur from hh) hn)
theorem Rdr.other {w w2 : World} {base r s b2 n : Nat} {V U : Value} {bs : List Int} {pos : Nat} {xs : List Value} (h : Rdr w base r s V bs pos) (hU : w.ownsRow b2 39 1 U n xs) (k : w.grownBy w2 U.ownBlock) : Rdr w2 base r s V bs pos :=
  ⟨h.rb.keep k (fun e => own_ne hU h.rb (by decide) e.symm), h.sb.keep k (fun e => own_ne hU h.sb (by decide) e.symm), h.own.kept k (own_two h.own hU (by decide))⟩

/-- One number has been read: the state that Unpack holds then. -/
def UpQ (er : Int) (w : World) (B r s br bu : Nat) (V : Value) (bs : List Int) (pos2 : Nat) (us : List Int) (e : Ending) (w' : World) : Prop :=
  e = .returned (.int .i64 er) ∧ Below B w w' ∧ ∃ U, Upk w' B r s br bu V bs pos2 U us

end Go.Proofs.Ytgknooblnpmloaa
