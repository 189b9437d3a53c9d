/- Cubeset: the reference's Union. -/
import Derived.Test.YteemhabgliglmaaCsD
namespace Go.Proofs.Yteemhabgliglmaa
open Go.RowKit
set_option linter.unusedVariables false

set_option maxRecDepth 100000 in
set_option maxHeartbeats 400000 in
theorem runion_any (w : World) (a b : Option Addr) (n c m d : Nat) (L M : List (Nat × Nat)) (h : SC w a n c L) (g : SC w b m d M) (hn : n ≤ 10000) (hm : m ≤ 10000) : Calls Try.prog 14 #[.slice a n c, .slice b m d] w (RetCE (stepL (L ++ M)) (stepE (L ++ M)) w) := by
  have HA := Lib.hid h
  have HB := Lib.hid g
  have HL := Lib.hid h.len
  have HL2 := Lib.hid g.len
  clear h g
  go_enter Try.func14, Try.ntmps14
  go_wp2_with (at_builtin; refine pushAll rfl _ _ rfl w.heap.size _ [] rfl (CLs.nil _ _) a n c L rfl HA.out (by have := HL.out; simp; omega) (Nat.le_refl _) ?_)
  intro V1 w1 o1 g1
  obtain ⟨a1, c1, rfl⟩ := o1.shape
  have G1 := Lib.hid (show w.grownBy w1 none by simpa [Value.ownBlock] using g1)
  have O1 := Lib.hid o1
  have HB1 := Lib.hid (HB.out.keep0 G1.out)
  clear o1 g1
  go_wp2_with (at_builtin; refine pushAll rfl _ _ rfl w.heap.size _ L rfl O1.out b m d M rfl HB1.out (by have := HL.out; have := HL2.out; omega) G1.out.size ?_)
  intro V2 w2 o2 g2
  have G2 := Lib.hid (gb_own G1.out O1.out (Nat.le_refl _) g2)
  obtain ⟨a2, c2, rfl⟩ := o2.shape
  have wf : ∀ p ∈ L ++ M, B64 p.1 ∧ B64 p.2 := fun p hp => by
    rcases List.mem_append.1 hp with q | q
    · exact HA.out.wf p q
    · exact HB.out.wf p q
  obtain ⟨K, hK⟩ : ∃ K, K = L ++ M := ⟨_, rfl⟩
  rw [← hK] at o2 wf ⊢
  have HKK := Lib.hid hK
  have ST := Lib.hid (step_any w2 a2 _ c2 K (sc_own o2 wf) (by rw [hK]; have := HL.out; have := HL2.out; simp; omega))
  clear hK
  clear o2 g2
  go_wp2_with fail
  refine ST.out.mono ?_
  rintro e w3 ⟨V, rfl, o3, g3⟩
  go_wp2
  go_ret2
  rw [← HKK.out]
  exact ⟨_, rfl, own_low o3 G2.out.size, gb_trans G2.out g3⟩
end Go.Proofs.Yteemhabgliglmaa
