/- Env: the law's example; no condition. -/
import Derived.Test.YtolifmpnhflegaaEvX
namespace Go.Proofs.Ytolifmpnhflegaa
open Go.RowKit
set_option linter.unusedVariables false
def hX : List (ByteArray × List Fld) := [(⟨#[104]⟩, [(⟨#[97]⟩, 8), (⟨#[98]⟩, 4)])]
def mX : List Fld := [(⟨#[105, 110]⟩, 8)]
theorem adY (g j : Nat) : ((⟨g, 0, none⟩ : Addr).add j) = ⟨g, j, none⟩ := by unfold Addr.add; split <;> simp_all
theorem sf_two {w : World} {g : Nat} {t : TypeId} {s u : ByteArray} {x y : Int} (h : IsB w g t #[.string s, .int .i64 x, .string u, .int .i64 y]) : SF w (some ⟨g, 0, none⟩) 2 2 [(s, x), (u, y)] := by
  refine ⟨rfl, (fun e => by cases e), Nat.le_refl _, fun ad e j hj => ?_⟩
  injection e with e
  subst e
  rw [adY]
  rcases (show j = 0 ∨ j = 1 by omega) with rfl | rfl
  · exact ⟨h.cell 0, h.cell 1⟩
  · exact ⟨h.cell 2, h.cell 3⟩
theorem sf_one {w : World} {g : Nat} {t : TypeId} {s : ByteArray} {x : Int} (h : IsB w g t #[.string s, .int .i64 x]) : SF w (some ⟨g, 0, none⟩) 1 1 [(s, x)] := by
  refine ⟨rfl, (fun e => by cases e), Nat.le_refl _, fun ad e j hj => ?_⟩
  injection e with e
  subst e
  rw [adY]
  obtain rfl : j = 0 := by omega
  exact ⟨h.cell 0, h.cell 1⟩
theorem sh_one {w : World} {g n c : Nat} {a : Option Addr} {t : TypeId} {s : ByteArray} {L : List Fld} (h : IsB w g t #[.string s, .slice a n c]) (k : SF w a n c L) : SH w (some ⟨g, 0, none⟩) 1 1 [(s, L)] := by
  refine ⟨rfl, (fun e => by cases e), Nat.le_refl _, fun ad e j hj => ?_⟩
  injection e with e
  subst e
  rw [adY]
  obtain rfl : j = 0 := by omega
  exact ⟨h.cell 0, _, _, _, h.cell 1, k⟩
set_option maxRecDepth 100000 in
set_option maxHeartbeats 4000000 in
theorem example_any (w : World) : Calls Try.prog 33 #[] w (fun e w' => ∃ (h m : Addr), e = .returned (.agg #[.string ⟨#[]⟩, .slice (some h) 1 1, .slice (some m) 1 1, .slice none 0 0, .slice none 0 0, .slice none 0 0, .slice none 0 0, .slice none 0 0, .slice none 0 0]) ∧ SH w' (some h) 1 1 hX ∧ SF w' (some m) 1 1 mX ∧ w.grownBy w' none) := by
  have G4 := Lib.hid (gb_trans (gb_trans (gb_trans (gb_alloc w (.cells #[.string ⟨#[]⟩, .slice (some ⟨w.heap.size + 1 + 1, 0, none⟩) 1 1, .slice (some ⟨w.heap.size + 1 + 1 + 1, 0, none⟩) 1 1, .slice none 0 0, .slice none 0 0, .slice none 0 0, .slice none 0 0, .slice none 0 0, .slice none 0 0] 31) none) (gb_alloc _ (.cells #[.string ⟨#[97]⟩, .int .i64 8, .string ⟨#[98]⟩, .int .i64 4] 73) none)) (gb_alloc _ (.cells #[.string ⟨#[104]⟩, .slice (some ⟨w.heap.size + 1, 0, none⟩) 2 2] 68) none)) (gb_alloc _ (.cells #[.string ⟨#[105, 110]⟩, .int .i64 8] 73) none))
  have B1 := (((IsB.new w 31 #[.string ⟨#[]⟩, .slice (some ⟨w.heap.size + 1 + 1, 0, none⟩) 1 1, .slice (some ⟨w.heap.size + 1 + 1 + 1, 0, none⟩) 1 1, .slice none 0 0, .slice none 0 0, .slice none 0 0, .slice none 0 0, .slice none 0 0, .slice none 0 0]).alloc (.cells #[.string ⟨#[97]⟩, .int .i64 8, .string ⟨#[98]⟩, .int .i64 4] 73)).alloc (.cells #[.string ⟨#[104]⟩, .slice (some ⟨w.heap.size + 1, 0, none⟩) 2 2] 68)).alloc (.cells #[.string ⟨#[105, 110]⟩, .int .i64 8] 73)
  have B2 := ((IsB.new (w.alloc (.cells #[.string ⟨#[]⟩, .slice (some ⟨w.heap.size + 1 + 1, 0, none⟩) 1 1, .slice (some ⟨w.heap.size + 1 + 1 + 1, 0, none⟩) 1 1, .slice none 0 0, .slice none 0 0, .slice none 0 0, .slice none 0 0, .slice none 0 0, .slice none 0 0] 31)) 73 #[.string ⟨#[97]⟩, .int .i64 8, .string ⟨#[98]⟩, .int .i64 4]).alloc (.cells #[.string ⟨#[104]⟩, .slice (some ⟨w.heap.size + 1, 0, none⟩) 2 2] 68)).alloc (.cells #[.string ⟨#[105, 110]⟩, .int .i64 8] 73)
  have B3 := (IsB.new ((w.alloc (.cells #[.string ⟨#[]⟩, .slice (some ⟨w.heap.size + 1 + 1, 0, none⟩) 1 1, .slice (some ⟨w.heap.size + 1 + 1 + 1, 0, none⟩) 1 1, .slice none 0 0, .slice none 0 0, .slice none 0 0, .slice none 0 0, .slice none 0 0, .slice none 0 0] 31)).alloc (.cells #[.string ⟨#[97]⟩, .int .i64 8, .string ⟨#[98]⟩, .int .i64 4] 73)) 68 #[.string ⟨#[104]⟩, .slice (some ⟨w.heap.size + 1, 0, none⟩) 2 2]).alloc (.cells #[.string ⟨#[105, 110]⟩, .int .i64 8] 73)
  have B4 := IsB.new (((w.alloc (.cells #[.string ⟨#[]⟩, .slice (some ⟨w.heap.size + 1 + 1, 0, none⟩) 1 1, .slice (some ⟨w.heap.size + 1 + 1 + 1, 0, none⟩) 1 1, .slice none 0 0, .slice none 0 0, .slice none 0 0, .slice none 0 0, .slice none 0 0, .slice none 0 0] 31)).alloc (.cells #[.string ⟨#[97]⟩, .int .i64 8, .string ⟨#[98]⟩, .int .i64 4] 73)).alloc (.cells #[.string ⟨#[104]⟩, .slice (some ⟨w.heap.size + 1, 0, none⟩) 2 2] 68)) 73 #[.string ⟨#[105, 110]⟩, .int .i64 8]
  simp only [sz_al] at B2 B3 B4
  replace B1 := Lib.hid B1
  replace B2 := Lib.hid B2
  replace B3 := Lib.hid B3
  replace B4 := Lib.hid B4
  go_enter Try.func33, Try.ntmps33
  go_wp2
  generalize (((w.alloc (.cells #[.string ⟨#[]⟩, .slice (some ⟨w.heap.size + 1 + 1, 0, none⟩) 1 1, .slice (some ⟨w.heap.size + 1 + 1 + 1, 0, none⟩) 1 1, .slice none 0 0, .slice none 0 0, .slice none 0 0, .slice none 0 0, .slice none 0 0, .slice none 0 0] 31)).alloc (.cells #[.string ⟨#[97]⟩, .int .i64 8, .string ⟨#[98]⟩, .int .i64 4] 73)).alloc (.cells #[.string ⟨#[104]⟩, .slice (some ⟨w.heap.size + 1, 0, none⟩) 2 2] 68)).alloc (.cells #[.string ⟨#[105, 110]⟩, .int .i64 8] 73) = w4 at *
  obtain ⟨bx, hbx⟩ : ∃ b, b = w.heap.size := ⟨_, rfl⟩
  have Lbx := Lib.hid (show w.heap.size ≤ bx by rw [hbx]; exact Nat.le_refl _)
  rw [← hbx] at B1 B2 B3 B4 ⊢
  clear hbx
  have c0 := B1.out.cell 0
  have c1 := B1.out.cell 1
  have c2 := B1.out.cell 2
  have c3 := B1.out.cell 3
  have c4 := B1.out.cell 4
  have c5 := B1.out.cell 5
  have c6 := B1.out.cell 6
  have c7 := B1.out.cell 7
  have c8 := B1.out.cell 8
  dsimp at c0 c1 c2 c3 c4 c5 c6 c7 c8
  refine bodyPost_ret (v := .agg #[.string ⟨#[]⟩, .slice (some ⟨bx + 1 + 1, 0, none⟩) 1 1, .slice (some ⟨bx + 1 + 1 + 1, 0, none⟩) 1 1, .slice none 0 0, .slice none 0 0, .slice none 0 0, .slice none 0 0, .slice none 0 0, .slice none 0 0]) (by rw [results_cell1 rfl]; go_simp; try rfl) rfl ⟨_, _, rfl, ?_, ?_, G4.out⟩
  · exact sh_one B3.out (sf_two B2.out)
  · exact sf_one B4.out
end Go.Proofs.Ytolifmpnhflegaa
