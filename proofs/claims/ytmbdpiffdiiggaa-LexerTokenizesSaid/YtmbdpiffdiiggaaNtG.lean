/- Hexadecimal text as bytes: the walks of nextByte and DecodeHex; no condition but sizes and the bytes' range. -/
import Derived.Test.YtmbdpiffdiiggaaNtF
namespace Go.Proofs.Ytmbdpiffdiiggaa
open Go.RowKit
set_option linter.unusedVariables false

theorem or_hex (h l : Int) (h0 : 0 ≤ h) (h1 : h < 16) (l0 : 0 ≤ l) (l1 : l < 16) : bits .or .u64 (h * 16) l = h * 16 + l :=
  bits_join .u64 32 (by decide) (fun n a b => by rw [IntKind.wrap_u64]; omega) 4 (h * 16) l (by omega) (by simp) (by simp; omega) l0 (by simp; omega) (by simp; omega)

/-- The call answers no byte. -/
def NoByte (w : World) (b : Nat) (e : Ending) (w' : World) : Prop := ∃ c, e = .returned (.tuple #[.int .u8 c, .bool false]) ∧ w.grownBy w' (some b)
def decX : List Int → Option (List Int)
  | [] => some []
  | [_] => none
  | a :: b :: t => if dv a < 16 ∧ dv b < 16 then (decX t).map ((dv a * 16 + dv b) :: ·) else none
theorem decX_range : ∀ (L M : List Int), decX L = some M → ∀ x ∈ M, 0 ≤ x ∧ x ≤ 255
  | [], M, h => by simp [decX] at h; subst h; simp
  | [_], M, h => by simp [decX] at h
  | a :: b :: t, M, h => by
    unfold decX at h
    split at h
    · rename_i hd
      rw [Option.map_eq_some_iff] at h
      obtain ⟨N, hN, rfl⟩ := h
      have ha := dv_range a
      have hb := dv_range b
      intro x hx
      rcases List.mem_cons.1 hx with e | e
      · omega
      · exact decX_range t N hN x e
    · cases h
def offOf (w : World) (g : Nat) : Nat := match w.cell? ⟨g, 1, none⟩ with
  | some v => (intOf v).toNat
  | none => 0
theorem offOf_at {w : World} {g : Nat} {t : TypeId} {o : Nat} {x : Value} (h : IsB w g t #[x, .int .i64 o]) : offOf w g = o := by
  unfold offOf
  have c0 : w.cell? ⟨g, 1, none⟩ = some (.int .i64 o) := h.cell 1
  rw [c0]
  show ((o : Int)).toNat = o
  omega
end Go.Proofs.Ytmbdpiffdiiggaa
