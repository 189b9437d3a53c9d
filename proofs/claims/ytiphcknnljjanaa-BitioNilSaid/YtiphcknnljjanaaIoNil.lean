/- The law on nil and uninitialized readers and writers: its walk; no condition. -/
import Derived.Test.YtiphcknnljjanaaIoS
namespace Go.Proofs.Ytiphcknnljjanaa
open Go.RowKit
set_option linter.unusedVariables false

/-- The two readers and the two writers of the law, from block h on. -/
structure NilSt (w : World) (h : Nat) : Prop where
  r : IsB w h 87 #[.pointer none]
  rs : IsB w (h + 1) 46 #[.pointer none, .pointer (some ⟨h, 0, none⟩)]
  u : IsB w (h + 2) 91 #[.pointer none]
  us : IsB w (h + 3) 62 #[.pointer none, .pointer (some ⟨h + 2, 0, none⟩)]
theorem NilSt.keep0 {w w2 : World} {h : Nat} (n : NilSt w h) (k : w.grownBy w2 none) : NilSt w2 h := ⟨n.r.keep0 k, n.rs.keep0 k, n.u.keep0 k, n.us.keep0 k⟩
theorem nil_start (w : World) : NilSt ((((w.alloc (.cells #[.pointer none] 87)).alloc (.cells #[.pointer none, .pointer (some ⟨w.heap.size, 0, none⟩)] 46)).alloc (.cells #[.pointer none] 91)).alloc (.cells #[.pointer none, .pointer (some ⟨w.heap.size + 1 + 1, 0, none⟩)] 62)) w.heap.size := by
  have e1 : (w.alloc (.cells #[.pointer none] 87)).heap.size = w.heap.size + 1 := by simp
  have e2 : ((w.alloc (.cells #[.pointer none] 87)).alloc (.cells #[.pointer none, .pointer (some ⟨w.heap.size, 0, none⟩)] 46)).heap.size = w.heap.size + 2 := by simp
  have e3 : (((w.alloc (.cells #[.pointer none] 87)).alloc (.cells #[.pointer none, .pointer (some ⟨w.heap.size, 0, none⟩)] 46)).alloc (.cells #[.pointer none] 91)).heap.size = w.heap.size + 3 := by simp
  refine ⟨(((IsB.new w _ _).alloc _).alloc _).alloc _, ?_, ?_, ?_⟩
  · have k := IsB.new (w.alloc (.cells #[.pointer none] 87)) 46 #[.pointer none, .pointer (some ⟨w.heap.size, 0, none⟩)]
    rw [e1] at k; exact (k.alloc _).alloc _
  · have k := IsB.new ((w.alloc (.cells #[.pointer none] 87)).alloc (.cells #[.pointer none, .pointer (some ⟨w.heap.size, 0, none⟩)] 46)) 91 #[.pointer none]
    rw [e2] at k; exact k.alloc _
  · have k := IsB.new (((w.alloc (.cells #[.pointer none] 87)).alloc (.cells #[.pointer none, .pointer (some ⟨w.heap.size, 0, none⟩)] 46)).alloc (.cells #[.pointer none] 91)) 62 #[.pointer none, .pointer (some ⟨w.heap.size + 1 + 1, 0, none⟩)]
    rw [e3] at k; exact k

set_option maxRecDepth 100000 in
set_option maxHeartbeats 2000000 in
theorem nil_walk (v n : Int) (W : World) : Calls Try.prog 13 #[.int .u32 v, .int .i64 n] W fun e w' => e = .returned (.bool true) ∧ Below W.heap.size W w' := by
  have HN := Lib.hid (nil_start W)
  have HB := Lib.hid (show Below W.heap.size W ((((W.alloc (.cells #[.pointer none] 87)).alloc (.cells #[.pointer none, .pointer (some ⟨W.heap.size, 0, none⟩)] 46)).alloc (.cells #[.pointer none] 91)).alloc (.cells #[.pointer none, .pointer (some ⟨W.heap.size + 1 + 1, 0, none⟩)] 62)) from ((((Below.refl _ _).alloc (Nat.le_refl _) _).alloc (by simp) _).alloc (by simp; omega) _).alloc (by simp; omega) _)
  go_enter Try.func13, Try.ntmps13
  go_wp2_with fail
  go_loopw [9] (fun i wr => ∃ k : Nat, k ≤ 2 ∧ i = .int .i64 k ∧ NilSt wr W.heap.size ∧ Below W.heap.size W wr) (fun i _ => 2 - (intOf i).toNat)
  case atStart => exact ⟨0, by omega, rfl, HN.out, HB.out⟩
  case round =>
    obtain ⟨k, hk, rfl, hs, hb⟩ := hrel
    clear HN HB
    have HB := Lib.hid hb
    clear hb
    have hk3 : k = 0 ∨ k = 1 ∨ k = 2 := by omega
    rcases hk3 with rfl | rfl | rfl
    · have c1 : wr.cell? ⟨W.heap.size + 1, 0, none⟩ = some (.pointer none) := hs.rs.cell 0
      have c2 : wr.cell? ⟨W.heap.size + 3, 0, none⟩ = some (.pointer none) := hs.us.cell 0
      go_wp2_with fail
      refine (reads_nil _ n).mono ?_
      rintro e u00 ⟨rfl, g, _⟩
      have hs2 := hs.keep0 g
      have HB2 := Lib.hid (HB.out.grown g HB.out.size (by intro k hk; cases hk))
      clear HB hs c1 c2 g
      have hs := hs2
      have HB := HB2
      clear hs2 HB2
      have c1 : u00.cell? ⟨W.heap.size + 1, 0, none⟩ = some (.pointer none) := hs.rs.cell 0
      have c2 : u00.cell? ⟨W.heap.size + 3, 0, none⟩ = some (.pointer none) := hs.us.cell 0
      go_wp2_with fail
      refine (rest_nil _).mono ?_
      rintro e u01 ⟨rfl, g, _⟩
      have hs2 := hs.keep0 g
      have HB2 := Lib.hid (HB.out.grown g HB.out.size (by intro k hk; cases hk))
      clear HB hs c1 c2 g
      have hs := hs2
      have HB := HB2
      clear hs2 HB2
      have c1 : u01.cell? ⟨W.heap.size + 1, 0, none⟩ = some (.pointer none) := hs.rs.cell 0
      have c2 : u01.cell? ⟨W.heap.size + 3, 0, none⟩ = some (.pointer none) := hs.us.cell 0
      go_wp2_with fail
      refine (bytes_nil _).mono ?_
      rintro e u02 ⟨rfl, g, _⟩
      have hs2 := hs.keep0 g
      have HB2 := Lib.hid (HB.out.grown g HB.out.size (by intro k hk; cases hk))
      clear HB hs c1 c2 g
      have hs := hs2
      have HB := HB2
      clear hs2 HB2
      have c1 : u02.cell? ⟨W.heap.size + 1, 0, none⟩ = some (.pointer none) := hs.rs.cell 0
      have c2 : u02.cell? ⟨W.heap.size + 3, 0, none⟩ = some (.pointer none) := hs.us.cell 0
      go_wp2_with fail
      refine (Remaining_nil _).mono ?_
      rintro e u03 ⟨rfl, g, _⟩
      have hs2 := hs.keep0 g
      have HB2 := Lib.hid (HB.out.grown g HB.out.size (by intro k hk; cases hk))
      clear HB hs c1 c2 g
      have hs := hs2
      have HB := HB2
      clear hs2 HB2
      have c1 : u03.cell? ⟨W.heap.size + 1, 0, none⟩ = some (.pointer none) := hs.rs.cell 0
      have c2 : u03.cell? ⟨W.heap.size + 3, 0, none⟩ = some (.pointer none) := hs.us.cell 0
      go_wp2_with fail
      refine (wr_nil _ v n).mono ?_
      rintro e u04 ⟨rfl, g, _⟩
      have hs2 := hs.keep0 g
      have HB2 := Lib.hid (HB.out.grown g HB.out.size (by intro k hk; cases hk))
      clear HB hs c1 c2 g
      have hs := hs2
      have HB := HB2
      clear hs2 HB2
      have c1 : u04.cell? ⟨W.heap.size + 1, 0, none⟩ = some (.pointer none) := hs.rs.cell 0
      have c2 : u04.cell? ⟨W.heap.size + 3, 0, none⟩ = some (.pointer none) := hs.us.cell 0
      go_wp2_with fail
      refine (len_nil _).mono ?_
      rintro e u05 ⟨rfl, g, _⟩
      have hs2 := hs.keep0 g
      have HB2 := Lib.hid (HB.out.grown g HB.out.size (by intro k hk; cases hk))
      clear HB hs c1 c2 g
      have hs := hs2
      have HB := HB2
      clear hs2 HB2
      have c1 : u05.cell? ⟨W.heap.size + 1, 0, none⟩ = some (.pointer none) := hs.rs.cell 0
      have c2 : u05.cell? ⟨W.heap.size + 3, 0, none⟩ = some (.pointer none) := hs.us.cell 0
      clear c1 c2
      go_wp2
      go_roundw
      case rel => exact ⟨1, by omega, by go_num, hs, HB.out⟩
      case measure => simp [intOf]
    · have c1 : wr.cell? ⟨W.heap.size + 1, 1, none⟩ = some (.pointer (some ⟨W.heap.size, 0, none⟩)) := hs.rs.cell 1
      have c2 : wr.cell? ⟨W.heap.size + 3, 1, none⟩ = some (.pointer (some ⟨W.heap.size + 2, 0, none⟩)) := hs.us.cell 1
      go_wp2_with fail
      refine (reads_raw _ _ n hs.r).mono ?_
      rintro e u10 ⟨rfl, g, _⟩
      have hs2 := hs.keep0 g
      have HB2 := Lib.hid (HB.out.grown g HB.out.size (by intro k hk; cases hk))
      clear HB hs c1 c2 g
      have hs := hs2
      have HB := HB2
      clear hs2 HB2
      have c1 : u10.cell? ⟨W.heap.size + 1, 1, none⟩ = some (.pointer (some ⟨W.heap.size, 0, none⟩)) := hs.rs.cell 1
      have c2 : u10.cell? ⟨W.heap.size + 3, 1, none⟩ = some (.pointer (some ⟨W.heap.size + 2, 0, none⟩)) := hs.us.cell 1
      go_wp2_with fail
      refine (rest_raw _ _ hs.r).mono ?_
      rintro e u11 ⟨rfl, g, _⟩
      have hs2 := hs.keep0 g
      have HB2 := Lib.hid (HB.out.grown g HB.out.size (by intro k hk; cases hk))
      clear HB hs c1 c2 g
      have hs := hs2
      have HB := HB2
      clear hs2 HB2
      have c1 : u11.cell? ⟨W.heap.size + 1, 1, none⟩ = some (.pointer (some ⟨W.heap.size, 0, none⟩)) := hs.rs.cell 1
      have c2 : u11.cell? ⟨W.heap.size + 3, 1, none⟩ = some (.pointer (some ⟨W.heap.size + 2, 0, none⟩)) := hs.us.cell 1
      go_wp2_with fail
      refine (bytes_raw _ _ hs.u).mono ?_
      rintro e u12 ⟨rfl, g, _⟩
      have hs2 := hs.keep0 g
      have HB2 := Lib.hid (HB.out.grown g HB.out.size (by intro k hk; cases hk))
      clear HB hs c1 c2 g
      have hs := hs2
      have HB := HB2
      clear hs2 HB2
      have c1 : u12.cell? ⟨W.heap.size + 1, 1, none⟩ = some (.pointer (some ⟨W.heap.size, 0, none⟩)) := hs.rs.cell 1
      have c2 : u12.cell? ⟨W.heap.size + 3, 1, none⟩ = some (.pointer (some ⟨W.heap.size + 2, 0, none⟩)) := hs.us.cell 1
      go_wp2_with fail
      refine (Remaining_raw _ _ hs.r).mono ?_
      rintro e u13 ⟨rfl, g, _⟩
      have hs2 := hs.keep0 g
      have HB2 := Lib.hid (HB.out.grown g HB.out.size (by intro k hk; cases hk))
      clear HB hs c1 c2 g
      have hs := hs2
      have HB := HB2
      clear hs2 HB2
      have c1 : u13.cell? ⟨W.heap.size + 1, 1, none⟩ = some (.pointer (some ⟨W.heap.size, 0, none⟩)) := hs.rs.cell 1
      have c2 : u13.cell? ⟨W.heap.size + 3, 1, none⟩ = some (.pointer (some ⟨W.heap.size + 2, 0, none⟩)) := hs.us.cell 1
      go_wp2_with fail
      refine (wr_raw _ _ v n hs.u).mono ?_
      rintro e u14 ⟨rfl, g, _⟩
      have hs2 := hs.keep0 g
      have HB2 := Lib.hid (HB.out.grown g HB.out.size (by intro k hk; cases hk))
      clear HB hs c1 c2 g
      have hs := hs2
      have HB := HB2
      clear hs2 HB2
      have c1 : u14.cell? ⟨W.heap.size + 1, 1, none⟩ = some (.pointer (some ⟨W.heap.size, 0, none⟩)) := hs.rs.cell 1
      have c2 : u14.cell? ⟨W.heap.size + 3, 1, none⟩ = some (.pointer (some ⟨W.heap.size + 2, 0, none⟩)) := hs.us.cell 1
      go_wp2_with fail
      refine (len_raw _ _ hs.u).mono ?_
      rintro e u15 ⟨rfl, g, _⟩
      have hs2 := hs.keep0 g
      have HB2 := Lib.hid (HB.out.grown g HB.out.size (by intro k hk; cases hk))
      clear HB hs c1 c2 g
      have hs := hs2
      have HB := HB2
      clear hs2 HB2
      have c1 : u15.cell? ⟨W.heap.size + 1, 1, none⟩ = some (.pointer (some ⟨W.heap.size, 0, none⟩)) := hs.rs.cell 1
      have c2 : u15.cell? ⟨W.heap.size + 3, 1, none⟩ = some (.pointer (some ⟨W.heap.size + 2, 0, none⟩)) := hs.us.cell 1
      clear c1 c2
      go_wp2
      go_roundw
      case rel => exact ⟨2, by omega, by go_num, hs, HB.out⟩
      case measure => simp [intOf]
    · go_wp2_with fail
      refine (works_any _).mono ?_
      rintro e w5 ⟨rfl, hb5⟩
      have HZ := Lib.hid (below_step HB.out HB.out.size hb5)
      clear hb5 HB
      go_wp2
      go_ret
      exact ⟨rfl, HZ.out⟩
end Go.Proofs.Ytiphcknnljjanaa
