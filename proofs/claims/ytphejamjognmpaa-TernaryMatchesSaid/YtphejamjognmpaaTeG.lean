/- Ternary: the walks of Format. -/
import Derived.Test.YtphejamjognmpaaTeF
import Derived.Test.YtphejamjognmpaaTeS
namespace Go.Proofs.Ytphejamjognmpaa
open Go.RowKit
set_option linter.unusedVariables false

/-- The first j characters of a cube of width k. -/
def fmtL (v m k j : Nat) : List Int := (List.range j).map fun i => chr v m (k - 1 - i)
theorem fmtL_succ (v m k j : Nat) : fmtL v m k (j + 1) = fmtL v m k j ++ [chr v m (k - 1 - j)] := by
  unfold fmtL; rw [List.range_succ, List.map_append]; rfl
theorem fmtL_len (v m k j : Nat) : (fmtL v m k j).length = j := by simp [fmtL]
theorem chr_range (v m i : Nat) : 0 ≤ chr v m i ∧ chr v m i ≤ 255 := by unfold chr; (repeat' split) <;> omega
/-- The text of Format. -/
def fmtS (v m : Nat) (w : Int) : List Int := if chkN v m w = 0 then fmtL v m w.toNat w.toNat else []
theorem str_x : (⟨#[120]⟩ : ByteArray) = strOf [120] := by decide
theorem str_0 : (⟨#[48]⟩ : ByteArray) = strOf [48] := by decide
theorem str_1 : (⟨#[49]⟩ : ByteArray) = strOf [49] := by decide
/-- What Format answers. -/
def RetF (v m : Nat) (x : Int) (w : World) (e : Ending) (w' : World) : Prop := e = .returned (.tuple #[.string (strOf (fmtS v m x)), .int .i64 (chkN v m x)]) ∧ w.grownBy w' none
theorem ret_se {a b : ByteArray} {c d : Int} (h : a = b) (g : c = d) : Ending.returned (.tuple #[.string a, .int .i64 c]) = .returned (.tuple #[.string b, .int .i64 d]) := by rw [h, g]
set_option maxRecDepth 100000 in
set_option maxHeartbeats 1000000 in
theorem rfmt_any (W : World) (v m : Nat) (x : Int) (hv : B64 v) (hm : B64 m) : Calls Try.prog 11 #[.agg #[.int .u64 v, .int .u64 m], .int .i64 x] W (RetF v m x W) := by
  have CK := Lib.hid (fun W => rchk_any W v m x hv hm)
  have HF := Lib.hid (show fmtS v m x = if chkN v m x = 0 then fmtL v m x.toNat x.toNat else [] from rfl)
  have HB := Lib.hid (show chkN v m x = 0 → 1 ≤ x ∧ x ≤ 64 from fun h => by unfold chkN at h; split at h <;> first | assumption | omega)
  obtain ⟨e, he⟩ : ∃ e, e = chkN v m x := ⟨_, rfl⟩
  have HC := Lib.hid he.symm
  rw [← he] at CK HF HB
  clear he
  have B1 := Lib.hid (IsB.new W 24 #[.int .u64 v, .int .u64 m])
  have G1 := Lib.hid (gb_alloc W (.cells #[.int .u64 v, .int .u64 m] 24) none)
  by_cases h0 : e = 0
  · subst h0
    rw [if_pos rfl] at HF
    obtain ⟨h1, h2⟩ := HB.out rfl
    obtain ⟨k, rfl⟩ : ∃ k : Nat, x = (k : Int) := ⟨x.toNat, by omega⟩
    rw [Int.toNat_natCast] at HF
    go_enter Try.func11, Try.ntmps11
    go_wp2_with fail
    refine (CK.out _).mono ?_
    rintro e w2 ⟨rfl, g2⟩
    have G2 := Lib.hid (gb_trans G1.out g2)
    have B2 := Lib.hid (B1.out.keep0 g2)
    have cv : w2.cell? ⟨W.heap.size, 0, none⟩ = some (.int .u64 v) := B2.out.cell 0
    have cm : w2.cell? ⟨W.heap.size, 1, none⟩ = some (.int .u64 m) := B2.out.cell 1
    have es : (⟨#[]⟩ : ByteArray) = strOf (fmtL v m k 0) := rfl
    clear g2
    go_wp2
    go_loopw [7, 8] (fun s i wr => ∃ j : Nat, j ≤ k ∧ i = .int .i64 ((k : Int) - 1 - j) ∧ s = .string (strOf (fmtL v m k j)) ∧ wr = w2) (fun _ i _ => (intOf i + 1).toNat)
    case atStart => exact ⟨0, Nat.zero_le _, by simp, rfl, rfl⟩
    case round =>
      obtain ⟨j, hj, rfl, rfl, rfl⟩ := hrel
      by_cases hlt : j < k
      · obtain ⟨i, hi⟩ : ∃ i : Nat, i = k - 1 - j := ⟨_, rfl⟩
        have ei : (k : Int) - 1 - (j : Int) = (i : Int) := by omega
        rw [ei]
        have FS := Lib.hid (fmtL_succ v m k j)
        rw [← hi] at FS
        have hil : i < 64 := by omega
        have hil2 : i ≤ 64 := by omega
        have i2 : (0 : Int) ≤ i := by omega
        obtain ⟨y, ey, hy, by1⟩ := bitAt m i hm
        obtain ⟨z, ez, hz, bz1⟩ := bitAt v i hv
        have e : chr v m i = if y % 2 = 0 then 120 else if z % 2 = 0 then 48 else 49 := by unfold chr; rw [hy, hz]
        rw [e] at FS
        have EI := Lib.hid (show (k : Int) - 1 - ((j + 1 : Nat) : Int) = (i : Int) - 1 by omega)
        obtain ⟨L, hL⟩ : ∃ L, L = fmtL v m k j := ⟨_, rfl⟩
        rw [← hL] at FS ⊢
        have hsz : (strOf L).size = j := by rw [hL, strOf_size, fmtL_len]
        have hj64 : j < 64 := by omega
        clear hy hz e hi ei hL es
        by_cases q0 : y % 2 = 0
        · rw [if_pos q0] at FS
          rw [q0] at by1
          clear q0
          go_wp2

          go_roundw
          case rel => exact ⟨j + 1, by omega, by rw [EI.out], by rw [FS.out, ← strOf_app, ← str_x], trivial⟩
          case measure => (simp [intOf] <;> try omega)
        · have q1 : y % 2 = 1 := by omega
          rw [if_neg q0] at FS
          rw [q1] at by1
          clear q0 q1
          by_cases r0 : z % 2 = 0
          · rw [if_pos r0] at FS
            rw [r0] at bz1
            clear r0
            go_wp2
            go_roundw
            case rel => exact ⟨j + 1, by omega, by rw [EI.out], by rw [FS.out, ← strOf_app, ← str_0], trivial⟩
            case measure => (simp [intOf] <;> try omega)
          · have r1 : z % 2 = 1 := by omega
            rw [if_neg r0] at FS
            rw [r1] at bz1
            clear r0 r1
            go_wp2
            go_roundw
            case rel => exact ⟨j + 1, by omega, by rw [EI.out], by rw [FS.out, ← strOf_app, ← str_1], trivial⟩
            case measure => (simp [intOf] <;> try omega)
      · have hje : j = k := by omega
        subst hje
        have ei : (j : Int) - 1 - (j : Int) = -1 := by omega
        rw [ei]
        go_wp2
        go_ret2
        exact ⟨ret_se (by rw [HF.out]) HC.out.symm, G2.out⟩
  · rw [if_neg h0] at HF
    have hne : (e != 0) = true := by rw [bne_iff_ne]; exact h0
    clear h0
    go_enter Try.func11, Try.ntmps11
    go_wp2_with fail
    refine (CK.out _).mono ?_
    rintro e w2 ⟨rfl, g2⟩
    have G2 := Lib.hid (gb_trans G1.out g2)
    clear g2
    go_wp2
    go_ret2
    exact ⟨ret_se (by rw [HF.out]; rfl) HC.out.symm, G2.out⟩
end Go.Proofs.Ytphejamjognmpaa
