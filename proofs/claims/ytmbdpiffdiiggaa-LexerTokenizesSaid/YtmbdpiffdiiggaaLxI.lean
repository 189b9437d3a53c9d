/- The example of the chapter: the walk of works; tokens read; no condition. -/
import Derived.Test.YtmbdpiffdiiggaaLxH
namespace Go.Proofs.Ytmbdpiffdiiggaa
open Go.RowKit
set_option linter.unusedVariables false

def noTok : Tok := ⟨0, [], 0, 0⟩
theorem flat_at (M : List Tok) : ∀ (i r : Nat), r < 4 → i < M.length → (M.flatMap tokC)[4 * i + r]? = (tokC (M.getD i noTok))[r]? := by
  induction M with
  | nil => intro i r _ h; simp at h
  | cons t s ih =>
    intro i r hr hi
    rw [List.flatMap_cons]
    cases i with
    | zero => rw [List.getElem?_append_left (by simp [tokC]; omega)]; simp
    | succ i =>
      rw [List.getElem?_append_right (by simp [tokC]; omega)]
      have e : 4 * (i + 1) + r - (tokC t).length = 4 * i + r := by simp [tokC]; omega
      rw [e, ih i r hr (by simpa using hi)]
      simp
theorem TL.cells {w : World} {base : Nat} {e : TypeId} {g n c : Nat} {M : List Tok} (h : TL w base e (.slice (some ⟨g, 0, none⟩) n c) M) (i : Nat) (hi : i < M.length) :
    w.cell? ⟨g, 4 * i, none⟩ = some (.int .i64 (M.getD i noTok).kind) ∧ w.cell? ⟨g, 4 * i + 1, none⟩ = some (.string (strOf (M.getD i noTok).text)) ∧
    w.cell? ⟨g, 4 * i + 2, none⟩ = some (.int .u32 (M.getD i noTok).val) ∧ w.cell? ⟨g, 4 * i + 3, none⟩ = some (.int .i64 (M.getD i noTok).line) := by
  have k : ∀ r, r < 4 → ∀ u, (tokC (M.getD i noTok))[r]? = some u → w.cell? ⟨g, 4 * i + r, none⟩ = some u := by
    intro r hr u hu
    have q := World.ownsRow.cells h (g := g) rfl (4 * i + r) u (by rw [flat_at M i r hr hi]; exact hu)
    have e : ((⟨g, 0, none⟩ : Addr).add (4 * i + r)) = ⟨g, 4 * i + r, none⟩ := by unfold Addr.add; split <;> simp_all
    rw [e] at q; exact q
  exact ⟨k 0 (by decide) _ rfl, k 1 (by decide) _ rfl, k 2 (by decide) _ rfl, k 3 (by decide) _ rfl⟩
theorem TL.head {w : World} {base : Nat} {e : TypeId} {V : Value} {M : List Tok} (h : TL w base e V M) (hn : 0 < M.length) : ∃ g c, V = .slice (some ⟨g, 0, none⟩) M.length c := own_head h hn

def exT : List Int := [97, 49, 60, 61, 48, 120, 49, 102, 32, 35, 32, 120]
theorem exT_tok : tokR exT = ([⟨1, [97, 49], 0, 1⟩, ⟨3, [60, 61], 0, 1⟩, ⟨2, [48, 120, 49, 102], 31, 1⟩], 0, 0) := by kernel_rfl
set_option maxRecDepth 100000 in
theorem works_any (W : World) : Calls Try.prog 15 #[] W (RetQ (.bool true) W none fun _ => True) := by
  have HT := Lib.hid (tokenize_any W exT (by decide) (by decide))
  rw [exT_tok] at HT
  rw [show strOf exT = (⟨#[97, 49, 60, 61, 48, 120, 49, 102, 32, 35, 32, 120]⟩ : ByteArray) from rfl] at HT
  go_enter Try.func15, Try.ntmps15
  go_wp2_with fail
  refine HT.out.mono ?_
  rintro e w2 ⟨V, rfl, o2, g2⟩
  obtain ⟨g, c, rfl⟩ := o2.head (by decide)
  obtain ⟨a0, a1, a2, a3⟩ := o2.cells 0 (by decide)
  obtain ⟨b0, b1, b2, b3⟩ := o2.cells 1 (by decide)
  obtain ⟨d0, d1, d2, d3⟩ := o2.cells 2 (by decide)
  have G2 := Lib.hid g2
  clear g2 o2 HT
  simp only [List.getD_cons_zero, List.getD_cons_succ, Nat.mul_zero, Nat.zero_add, Nat.mul_one, Nat.reduceMul, Nat.reduceAdd, List.length_cons, List.length_nil] at a0 a1 a2 a3 b0 b1 b2 b3 d0 d1 d2 d3 ⊢
  rw [show strOf [97, 49] = (⟨#[97, 49]⟩ : ByteArray) from rfl] at a1
  rw [show strOf [60, 61] = (⟨#[60, 61]⟩ : ByteArray) from rfl] at b1
  rw [show strOf [48, 120, 49, 102] = (⟨#[48, 120, 49, 102]⟩ : ByteArray) from rfl] at d1
  go_wp2
  go_ret
  exact ⟨rfl, G2.out, trivial⟩
end Go.Proofs.Ytmbdpiffdiiggaa
