/- Tries: the greatest matching entry of a list, found one by one: plain theory. -/
import Derived.Test.YtidjggaffioekaaLuA
namespace Go.Proofs.Ytidjggaffioekaa
open Go.RowKit
set_option linter.unusedVariables false

def onesO : Option Ent → Int
  | none => -1
  | some e => (e.1.length : Nat)
def valO : Option Ent → Int
  | none => 0
  | some e => e.2
def bstS (k : List Bool) (o : Option Ent) (e : Ent) : Option Ent := if e.1 <+: k ∧ onesO o < (e.1.length : Nat) then some e else o
def bst (k : List Bool) (L : List Ent) : Option Ent := L.foldl (bstS k) none
theorem bst_snoc (k : List Bool) (L : List Ent) (e : Ent) : bst k (L ++ [e]) = bstS k (bst k L) e := by simp [bst]
theorem lon_step {k : List Bool} {M : List Ent} {o : Option Ent} {e : Ent} (h : IsLon k M o) : IsLon k (M ++ [e]) (bstS k o e) := by
  unfold bstS
  split
  · rename_i q
    refine ⟨by simp, q.1, fun f hf hk => ?_⟩
    rcases List.mem_append.1 hf with m | m
    · cases o with
      | none => exact absurd hk (h f m)
      | some g =>
        have a := h.2.2 f m hk
        have b := q.2
        simp only [onesO] at b
        omega
    · simp at m; subst m; exact Nat.le_refl _
  · rename_i q
    cases o with
    | none =>
      intro f hf hk
      rcases List.mem_append.1 hf with m | m
      · exact h f m hk
      · simp at m; subst m
        exact q ⟨hk, by simp only [onesO]; omega⟩
    | some g =>
      refine ⟨List.mem_append_left _ h.1, h.2.1, fun f hf hk => ?_⟩
      rcases List.mem_append.1 hf with m | m
      · exact h.2.2 f m hk
      · simp at m; subst m
        simp only [onesO, not_and] at q
        have := q hk
        omega
theorem bst_is (k : List Bool) : ∀ (L M : List Ent) (o : Option Ent), IsLon k M o → IsLon k (M ++ L) (L.foldl (bstS k) o)
  | [], M, o, h => by simpa using h
  | e :: L, M, o, h => by
    have := bst_is k L (M ++ [e]) _ (lon_step (e := e) h)
    rw [List.append_assoc] at this
    exact this
theorem lon_uniq {wi : Nat} {k : List Bool} {L : List Ent} (hs : Srt wi L) : ∀ {a b : Option Ent}, IsLon k L a → IsLon k L b → a = b
  | none, none, _, _ => rfl
  | none, some f, a, b => absurd b.2.1 (a f b.1)
  | some e, none, a, b => absurd a.2.1 (b e a.1)
  | some e, some f, a, b => by
    have l1 := a.2.2 f b.1 b.2.1
    have l2 := b.2.2 e a.1 a.2.1
    have e1 : e.1 = f.1 := by
      rw [List.prefix_iff_eq_take.1 a.2.1, List.prefix_iff_eq_take.1 b.2.1, show e.1.length = f.1.length by omega]
    have e2 : e.2 = f.2 := srt_val (p := e.1) hs a.1 (by rw [e1]; exact b.1)
    rw [show e = f from Prod.ext e1 e2]
theorem bst_lon {wi : Nat} {T : Tr} (h : Ok wi [] T) (k : List Bool) : bst k (ents T) = lonT k T none := by
  have a : IsLon k (ents T) (bst k (ents T)) := by
    have := bst_is k (ents T) [] none (by intro e he; simp at he)
    simpa [bst] using this
  exact lon_uniq (wi := wi) h.sorted a (lon_is k T h)
theorem mask_inj {w a b : Nat} (ha : a ≤ w) (hb : b ≤ w) (h : maskN a w = maskN b w) : a = b := by
  unfold maskN at h
  have h1 : 2 ^ (w - a) ≤ 2 ^ w := Nat.pow_le_pow_right (by decide) (by omega)
  have h2 : 2 ^ (w - b) ≤ 2 ^ w := Nat.pow_le_pow_right (by decide) (by omega)
  have h3 : 2 ^ (w - a) = 2 ^ (w - b) := by omega
  have := (Nat.pow_right_inj (by decide : 1 < 2)).1 h3
  omega
theorem pre_take {wi v : Nat} {p : List Bool} (hp : p.length ≤ wi) : E wi ((bitsN wi v).take p.length) = E wi p ↔ p <+: bitsN wi v := by
  constructor
  · intro h
    have := E_inj (by rw [List.length_take, bits_len]; omega) hp (by rw [List.length_take, bits_len]; omega) h
    rw [← this]; exact List.take_prefix _ _
  · intro h; rw [← List.prefix_iff_eq_take.1 h]
/-- What Lookup answers, against the greatest found. -/
theorem tri_nv (o : Option Ent) : triV o = .tuple #[.int .i64 (valO o), .int .i64 (if o.isSome then onesO o else 0), .bool o.isSome] := by
  cases o <;> rfl
end Go.Proofs.Ytidjggaffioekaa
