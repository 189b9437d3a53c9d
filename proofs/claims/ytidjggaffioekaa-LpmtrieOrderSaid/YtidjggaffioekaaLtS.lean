/- Tries: the law works, and the law Nil; no condition. -/
import Derived.Test.YtidjggaffioekaaLtR
import Derived.Test.YtidjggaffioekaaLtN
namespace Go.Proofs.Ytidjggaffioekaa
open Go.RowKit
set_option linter.unusedVariables false

theorem low_of {W W' : World} {b : Bool} {e : Ending} (h : RetV (.bool true) W e W') : e = .returned (.bool true) ∧ Below W.heap.size W W' := ⟨h.1, (gr_gb h.2).below⟩
set_option maxRecDepth 100000 in
set_option maxHeartbeats 4000000 in
/-- The chapter's example. -/
theorem works_any (w : World) : Calls Try.prog 8 #[] w (RetV (.bool true) w) := by
  unfold RetV
  go_enter Try.func8, Try.ntmps8
  go_wp2_with fail
  refine (new_good w 8 (by decide)).mono ?_
  rintro e w1 ⟨q, s, rfl, hq, hs, g, lq, ls⟩
  have H1 := Lib.hid (LS.new (wd := 8) g hq hs (by decide) (by decide) lq ls)
  clear hq hs g lq ls
  go_wp2_with fail
  refine (ins_ok w w1 q s 8 160 4 .nil pA 1 H1.out (by decide) (by decide) (by decide) rfl (by decide)).mono ?_
  rintro e w2 ⟨a, f, rfl, h, _⟩
  have H2 := Lib.hid (show LS w q s 8 (T1 a f) w2 from h)
  clear h H1
  go_wp2_with fail
  refine (ins_dup w w2 q s 8 175 4 (T1 a f) pA 2 H2.out (by decide) (by decide) (by decide) (T1_dup a f)).mono ?_
  rintro e w3 ⟨rfl, h, _⟩
  have H3 := Lib.hid h
  clear h H2
  go_wp2_with fail
  refine (ins_ok w w3 q s 8 0 0 (T1 a f) [] 3 H3.out (by decide) (by decide) (by decide) (T1_no a f) (show 1 ≤ 100000 by decide)).mono ?_
  rintro e w4 ⟨b, k, rfl, h, _⟩
  have H4 := Lib.hid (show LS w q s 8 (T3 a f b k) w4 from h)
  clear h H3
  go_wp2_with fail
  have LA := Lib.hid (look_any w w4 q s 8 165 (T3 a f b k) H4.out (by decide))
  rw [T3_a] at LA
  dsimp only [triV] at LA
  refine LA.out.mono ?_
  rintro e w5 ⟨rfl, g⟩
  have H5 := Lib.hid (H4.out.keep0 g)
  clear g LA H4
  go_wp2_with fail
  have LA := Lib.hid (look_any w w5 q s 8 5 (T3 a f b k) H5.out (by decide))
  rw [T3_b] at LA
  dsimp only [triV] at LA
  refine LA.out.mono ?_
  rintro e w6 ⟨rfl, g⟩
  have H6 := Lib.hid (H5.out.keep0 g)
  clear g LA H5
  have SQ := Lib.hid (show Seqs w6 (some ⟨q, 0, none⟩) 8 (ents (T3 a f b k)) from fun n W B h1 g hB => LS.seqs0 TL (by unfold TL; decide) (by unfold TL; decide) (by unfold TL; decide) (by unfold TL; decide) (by unfold TL; decide) (by unfold TL; decide) H6.out (T3_blks a f b k) n W B h1 g hB)
  rw [T3_ents] at SQ
  go_wp2_with fail
  refine (collect_any w6 (some ⟨q, 0, none⟩) 8 [([], 3), (pA, 1)] 10 SQ.out (by decide)).mono ?_
  rintro e w7 ⟨V, rfl, hr, g⟩
  replace hr : RL w7 w6.heap.size V 8 [([], 3), (pA, 1)] := hr
  obtain ⟨ad, c, rfl⟩ := hr.shape
  obtain ⟨z, rfl⟩ := own_some hr (by decide)
  have s3 := own_s3 (f := itP 8) rfl hr
  have c2 : w7.cell? ⟨z, 2, none⟩ = some (.int .i64 3) := (s3.at_ (itP_3 8) 0 (by decide)).2.2
  have c3 : w7.cell? ⟨z, 3, none⟩ = some (.int .u32 160) := (s3.at_ (itP_3 8) 1 (by decide)).1
  have c4 : w7.cell? ⟨z, 4, none⟩ = some (.int .u32 240) := (s3.at_ (itP_3 8) 1 (by decide)).2.1
  have H7 := Lib.hid (H6.out.keep0 g)
  clear g SQ H6 hr s3
  dsimp only [List.length_cons, List.length_nil, Nat.reduceAdd]
  go_wp2_with fail
  have LE := Lib.hid (len_any w w7 q s 8 (T3 a f b k) H7.out)
  rw [T3_ents] at LE
  refine LE.out.mono ?_
  rintro e w8 ⟨rfl, rfl⟩
  dsimp only [List.length_cons, List.length_nil, Nat.reduceAdd]
  go_wp2
  go_ret
  exact ⟨rfl, H7.out.grown⟩
set_option maxRecDepth 100000 in
set_option maxHeartbeats 4000000 in
theorem nil_walk (w : World) (v n x : Int) : Calls Try.prog 7 #[.int .u32 v, .int .i64 n, .int .i64 x] w (RetV (.bool true) w) := by
  unfold RetV
  go_enter Try.func7, Try.ntmps7
  go_wp2_with fail
  refine (empty_any w none v n x (fun W _ => made_nil W)).mono ?_
  rintro e w1 ⟨rfl, g1⟩
  have G1 := Lib.hid g1
  clear g1
  have G2 := Lib.hid (gb_trans G1.out (gb_alloc w1 (.cells #[.pointer none] 61) none))
  have B2 := Lib.hid (IsB.new w1 61 #[.pointer none])
  go_wp2_with fail
  refine (empty_any _ (some ⟨w1.heap.size, 0, none⟩) v n x (fun W k => made_zq W _ (B2.out.keep0 k))).mono ?_
  rintro e w3 ⟨rfl, g3⟩
  have G3 := Lib.hid (gb_trans G2.out g3)
  clear g3
  go_wp2_with fail
  refine (works_any w3).mono ?_
  rintro e w4 ⟨rfl, g4⟩
  have G4 := Lib.hid (gb_trans G3.out g4)
  clear g4
  go_wp2
  go_ret
  exact ⟨rfl, G4.out⟩
end Go.Proofs.Ytidjggaffioekaa
