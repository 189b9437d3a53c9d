/- A number belongs to a union, intersection, difference or complement just if it belongs to one, both, only the first, or not to the only operand; for every input, without condition. -/
import Derived.Test.YtnilcpmnjlcpnaaFrame
import Derived.Test.YtnilcpmnjlcpnaaCtO
import Derived.Test.YtnilcpmnjlcpnaaFrC
import Derived.Test.YtnilcpmnjlcpnaaFrM
namespace Go.Proofs.Ytnilcpmnjlcpnaa
open Go.RowKit
theorem members_law (a b : Option Addr) (n c m d : Nat) (L M : List (Nat × Nat)) (wd : Nat) (hwd : wd ≤ 255) (na : Option Addr) (nn nc : Nat) (N : List Nat) (hNb : ∀ x ∈ N, B64 x) (W : World) (h : SC W a n c L) (g : SC W b m d M) (hN : SlR W na nn nc (N.map u64V)) : Calls Try.prog 5 #[.slice a n c, .slice b m d, .agg #[.int .u8 wd, .slice na nn nc]] W (fun e w' => e = .returned (.bool true) ∧ Below W.heap.size W w') := by
  refine (members_walk W a b n c m d L M wd hwd na nn nc N h g hN hNb).mono ?_
  rintro e w' ⟨rfl, g⟩
  exact ⟨rfl, (gr_gb g).below⟩
end Go.Proofs.Ytnilcpmnjlcpnaa
namespace Go.Proofs.Ytnilcpmnjlcpnaa.cubesetMembers
open Go.ChangeShapes Go.WideShapes Go.ChangeAt Go.RowKit
set_option linter.unusedVariables false

set_option maxRecDepth 100000 in
theorem lifted (os : Os) (started : os.Started) (H : Type) (enc : TypeId × Value → H) :
    ReturnsInHanded {} Try.checked os 5 .any (Rows.cubesetMembersSpec.pre6 enc Try.prog Try.f5 Rows.cubesetMembersRow.domain false) (Rows.cubesetMembersSpec.post enc Try.prog Try.f5 false true false false) := by
  refine returnsInHanded_of_change (C := Try.checked) ownKnobs started (by kernel_rfl) Try.func5
    (ChangeSpec.witness6 (enc := enc) (C := Try.checked) false ⟨#[], #[.slice none 0 0, .slice none 0 0, .agg #[.int .u8 0, .slice none 0 0]], []⟩ 8 (by kernel_rfl) (by kernel_rfl) (by kernel_rfl) (by kernel_rfl)) ?_
  intro W base args ds gs before hval0 hW hcnd _
  have hval : ∀ (j : Nat) t v, Try.f5.params[j]? = some t → args[j]? = some v → Value.okWide Try.prog W .any base t v := hval0
  have hW' := hW
  obtain ⟨p, q, hA0, hV, rfl, hfz, hnd⟩ := hW
  have hA : DataW.TrodAll enc Try.prog W 0 (fun _ => true) true Try.f5.params.toList args.toList ds p := hA0
  rw [Try.params5] at hA hval
  obtain ⟨v0, vs0, d0, ds0, p0, q0, hargs, rfl, rfl, h0, r0⟩ := trodAll_cons hA
  obtain ⟨v1, vs1, d1, ds1, p1, q1, rfl, rfl, rfl, h1, r1⟩ := trodAll_cons r0
  obtain ⟨v2, vs2, d2, ds2, p2, q2, rfl, rfl, rfl, h2, r2⟩ := trodAll_cons r1
  obtain ⟨rfl, rfl, rfl⟩ := trodAll_nil r2
  obtain rfl : args = #[v0, v1, v2] := by cases args; simp_all
  obtain ⟨rfl, rfl⟩ := trodVars_none hV
  have k0 := h0
  have lt0 : ∀ x ∈ p0, x.block < W.heap.size := by obtain ⟨m, hm⟩ := k0; exact DataW.trod_lt m _ _ _ hm
  have k1 := h1
  have lt1 : ∀ x ∈ p1, x.block < W.heap.size := by obtain ⟨m, hm⟩ := k1; exact DataW.trod_lt m _ _ _ hm
  have k2 := h2
  have lt2 : ∀ x ∈ p2, x.block < W.heap.size := by obtain ⟨m, hm⟩ := k2; exact DataW.trod_lt m _ _ _ hm
  obtain ⟨a0, len0, cap0, L0, rfl, w0⟩ := open_cubes Try.underlying22 Try.underlying49 (by kernel_rfl) rfl rfl (by kernel_rfl) (by kernel_rfl) Try.underlying33 Try.underlying33 (hval 0 22 v0 rfl rfl) h0
  obtain ⟨a1, len1, cap1, L1, rfl, w1⟩ := open_cubes Try.underlying22 Try.underlying49 (by kernel_rfl) rfl rfl (by kernel_rfl) (by kernel_rfl) Try.underlying33 Try.underlying33 (hval 1 22 v1 rfl rfl) h1
  obtain ⟨x2, a2, len2, cap2, N2, rfl, wx2, w2, b2⟩ := open_members Try.underlying44 (by kernel_rfl) (by kernel_rfl) Try.underlying5 Try.underlying42 Try.underlying33 (by kernel_rfl) (hval 2 44 v2 rfl rfl) h2
  clear hA0 hval0
  refine (members_law a0 a1 len0 cap0 len1 cap1 L0 L1 x2 wx2 a2 len2 cap2 N2 b2 W w0 w1 w2).mono fun e W' ⟨he, bel⟩ => ?_
  subst he
  exact ⟨_, rfl, _, _, _, [], _, [], hW', trodAll_mk1 (shut_bool Try.underlying4 _), (trodAll_cons_mk (Below.trod laidOutAll (by kernel_rfl) (of_decide_eq_true (by kernel_rfl)) k0 bel lt0) (trodAll_cons_mk (Below.trod laidOutAll (by kernel_rfl) (of_decide_eq_true (by kernel_rfl)) k1 bel lt1) (trodAll_cons_mk (Below.trod laidOutAll (by kernel_rfl) (of_decide_eq_true (by kernel_rfl)) k2 bel lt2) trodAll_mk0))), rfl, bel.frame _, fun h => by cases h⟩

theorem over : Rows.cubesetMembersRow.holds Try.pinned (OpenSpec.ofChange Rows.cubesetMembersSpec) :=
  OpenClaim.holds_of_wide 5 Try.f5 rfl rfl rfl rfl rfl rfl rfl ⟨rfl, rfl, rfl, rfl, rfl⟩ rfl rfl rfl rfl rfl (by kernel_rfl) Try.func5 (by kernel_rfl)
    (of_decide_eq_true (by kernel_rfl)) (by unfold Func.isWrapper; first | (rw [if_pos (by decide +kernel)]; kernel_rfl) | (rw [if_neg (by decide +kernel)]; exact ⟨rfl, rfl⟩))
    (fun os started H enc _ => lifted os started H enc)

/-- The statement. -/
theorem proved : Rows.CubesetMembersSaid := over
#print axioms proved
end Go.Proofs.Ytnilcpmnjlcpnaa.cubesetMembers
