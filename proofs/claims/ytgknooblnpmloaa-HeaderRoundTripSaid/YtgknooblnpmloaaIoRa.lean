/- The walks of patchbayref02's reader; no condition but sizes. -/
import Derived.Test.YtgknooblnpmloaaIoS
namespace Go.Proofs.Ytgknooblnpmloaa
open Go.RowKit
set_option linter.unusedVariables false

theorem rwid_any (w : Int) (W : World) : Calls Try.prog 44 #[.int .i64 w] W fun e w' => e = .returned (.bool (okW w)) ∧ W = w' := by
  by_cases h1 : 1 ≤ w
  · by_cases h2 : w ≤ 32
    · have HS := Lib.hid (show true = okW w by simp [okW, h1, h2])
      go_enter Try.func44, Try.ntmps44
      go_wp2
      go_ret
      exact ⟨ret_b HS.out, rfl⟩
    · have HS := Lib.hid (show false = okW w by simp [okW, h2])
      go_enter Try.func44, Try.ntmps44
      go_wp2
      go_ret
      exact ⟨ret_b HS.out, rfl⟩
  · have HS := Lib.hid (show false = okW w by simp [okW, h1])
    go_enter Try.func44, Try.ntmps44
    go_wp2
    go_ret
    exact ⟨ret_b HS.out, rfl⟩
theorem rrem_any (w : World) (a : Option Addr) (n c pos : Nat) (hn : n ≤ 60000) (hp : pos ≤ 8 * n) :
    Calls Try.prog 24 #[.agg #[.slice a n c, .int .i64 pos]] w (RetQ (.int .i64 (8 * (n : Int) - pos)) w none fun _ => True) := by
  go_enter Try.func24, Try.ntmps24
  go_wp2
  go_ret
  exact ⟨ret_i rfl, gb_alloc _ _ _, trivial⟩

theorem gb_set2 {w w2 : World} {g i j : Nat} {u v : Value} (G : w.grownBy w2 none) (h : w.heap.size ≤ g) : w.grownBy ((w2.setCell ⟨g, i, none⟩ u).setCell ⟨g, j, none⟩ v) none :=
  gb_new (gb_trans (gb_any G) (gb_trans (gb_set w2 g i u) (gb_set _ g j v))) h
theorem gb_set1 {w w2 : World} {g i : Nat} {u : Value} (G : w.grownBy w2 none) (h : w.heap.size ≤ g) : w.grownBy (w2.setCell ⟨g, i, none⟩ u) none :=
  gb_new (gb_trans (gb_any G) (gb_set w2 g i u)) h
/-- The reference's reader: its value, and the bytes that it owns. -/
def RVal (bs : List Int) (w : World) (e : Ending) (w' : World) : Prop :=
  ∃ a c, e = .returned (.agg #[.slice a bs.length c, .int .i64 0]) ∧ w.grownBy w' none ∧ w'.ownsRow w.heap.size 5 1 (.slice a bs.length c) bs.length (bs.map (Value.int .u8)) ∧ (bs = [] → a = none)

set_option maxRecDepth 100000 in
theorem rnew_any (w : World) (a : Option Addr) (n c : Nat) (bs : List Int) (h : SlR w a n c (bs.map (Value.int .u8))) (hn : bs.length ≤ 60000) :
    Calls Try.prog 17 #[.slice a n c] w (RVal bs w) := by
  obtain ⟨i0, hi, hz0, hz1, hz2⟩ := info_parts infoU8
  obtain ⟨hl, hno, hc⟩ := h.alloc (.cells #[.slice none 0 0, .int .i64 0] 37)
  have hl : bs.length = n := by simpa using hl
  subst hl
  have nb := IsB.new w 37 #[.slice none 0 0, .int .i64 0]
  cases a with
  | none =>
    obtain ⟨h0, rfl⟩ := hno rfl
    have hbs : bs = [] := List.length_eq_zero_iff.1 h0
    subst hbs
    have HI := Lib.hid hi
    have d0 : (w.alloc (.cells #[.slice none 0 0, .int .i64 0] 37)).cell? ⟨w.heap.size, 0, none⟩ = some (.slice none 0 0) := nb.cell 0
    have d1 : (w.alloc (.cells #[.slice none 0 0, .int .i64 0] 37)).cell? ⟨w.heap.size, 1, none⟩ = some (.int .i64 0) := nb.cell 1
    clear hno hc hn hz0 hz1 hz2 hi h0
    go_enter Try.func17, Try.ntmps17
    go_wp2_with (at_builtin; refine wpList_append_own_none rfl _ _ 33 rfl w.heap.size 5 i0 1 Try.underlying33 HI.out _ _ _ rfl (World.ownsRow_nil _ _ _ _) rfl ?_)
    refine bodyPost_ret (v := .agg #[.slice none 0 0, .int .i64 0]) (by simp [results, Try.results17, go_sem]) rfl ⟨none, 0, rfl, gb_alloc _ _ _, World.ownsRow_nil _ _ _ _, fun _ => rfl⟩
  | some ad =>
    have HC := Lib.hid (hc ad rfl)
    have HI := Lib.hid hi
    clear hno hc hi
    go_enter Try.func17, Try.ntmps17
    go_wp2_with (at_builtin; refine wpList_append_own _ rfl _ _ 33 rfl w.heap.size 5 i0 (.int .u8 0) 1 1 Try.underlying33 HI.out hz0 hz1 hz2 rfl (by decide) _ 0 [] rfl (World.ownsRow_nil _ _ _ _) ad bs.length c (bs.map (Value.int .u8)) rfl ?c1 HC.out (ints_one _ _) ?c3 ?c4 ?c5 ?_)
    case c1 => simp
    case c3 => unfold maxLen; omega
    case c4 => omega
    case c5 => simp
    · intro v' w2 hown hg hiff
      have O := Lib.hid (show w2.ownsRow w.heap.size 5 1 v' bs.length (bs.map (Value.int .u8)) by simpa using hown)
      have G := Lib.hid (show w.grownBy w2 none from gb_trans (gb_alloc _ _ _) hg)
      have N := Lib.hid (nb.keep0 hg)
      have HN := Lib.hid hiff
      obtain ⟨a2, c2, rfl⟩ := own_shape O.out
      have d0 : w2.cell? ⟨w.heap.size, 0, none⟩ = some (.slice none 0 0) := N.out.cell 0
      have d1 : w2.cell? ⟨w.heap.size, 1, none⟩ = some (.int .i64 0) := N.out.cell 1
      have f0 := N.out.free 0
      have f1 := N.out.free 1
      clear hown hg hiff nb HC HI hz0 hz1 hz2 hl
      go_wp2
      have N3 := (N.out.set 0 (.slice a2 bs.length c2)).set 1 (.int .i64 0)
      have e0 := N3.cell 0
      have e1 := N3.cell 1
      simp at e0 e1
      have k1 := own_keepS O.out (gb_set w2 w.heap.size 0 (.slice a2 bs.length c2)) N.out (by decide)
      have k2 := own_keepS k1 (gb_set _ w.heap.size 1 (.int .i64 0)) (N.out.set 0 (.slice a2 bs.length c2)) (by decide)
      refine bodyPost_ret (v := .agg #[.slice a2 bs.length c2, .int .i64 0]) (by simp [results, Try.results17, go_sem, e0, e1]) rfl ⟨a2, c2, rfl, gb_set2 G.out (Nat.le_refl _), k2, ?_⟩
      intro e
      have k := HN.out.2 e
      injection k

/-- What the reference's ReadBits answers: the reader's value, the number, the error code. -/
def RdV (a : Option Addr) (n c pos2 : Nat) (v er : Int) (w : World) (e : Ending) (w' : World) : Prop :=
  e = .returned (.tuple #[.agg #[.slice a n c, .int .i64 pos2], .int .u32 v, .int .i64 er]) ∧ w.grownBy w' none

theorem val_u {k : IntKind} {a b : Int} (h : a = b) : Value.int k a = .int k b := by rw [h]
theorem read_step (v x : Int) (m : Nat) (h : 0 ≤ v ∧ v < 2147483648) (hx : 0 ≤ x) : (2 * v % 4294967296 + (x / 2 ^ m).tmod 2) % 4294967296 = 2 * v + x / 2 ^ m % 2 := by
  rw [Int.tmod_eq_emod_of_nonneg (Int.ediv_nonneg hx (Int.le_of_lt (pow_pos' m)))]
  omega

set_option maxRecDepth 100000 in
set_option maxHeartbeats 1000000 in
theorem rread_ok (w : World) (base : Nat) (a : Option Addr) (c : Nat) (bs : List Int) (pos : Nat) (n : Int) (h : w.ownsRow base 5 1 (.slice a bs.length c) bs.length (bs.map (Value.int .u8))) (hb : ∀ b ∈ bs, 0 ≤ b ∧ b ≤ 255) (hn : bs.length ≤ 60000)
    (h1 : 1 ≤ n) (h2 : n ≤ 32) (hp : (pos : Int) + n ≤ 8 * bs.length) :
    Calls Try.prog 19 #[.agg #[.slice a bs.length c, .int .i64 pos], .int .i64 n] w (RdV a bs.length c (pos + n.toNat) (accB bs pos n.toNat) 0 w) := by
  have HW := Lib.hid (show okW n = true by simp [okW, h1, h2])
  have hwv := rwid_any n
  rw [HW.out] at hwv
  have HWV := Lib.hid hwv
  clear hwv
  have hle : ¬ 8 * (bs.length : Int) - pos < n := by omega
  go_enter Try.func19, Try.ntmps19
  go_wp2_with (first | (go_at_call 44; refine (HWV.out _).mono ?_; rintro e w' ⟨rfl, rfl⟩) | (go_at_call 24; refine (rrem_any _ _ _ _ _ hn (by omega)).mono ?_; rintro e w' ⟨rfl, g, _⟩))
  have hsz : (w.alloc (.cells #[.slice a bs.length c, .int .i64 pos] 37)).heap.size = w.heap.size + 1 := by simp
  have n1 := ((IsB.new w 37 #[.slice a bs.length c, .int .i64 pos]).alloc (.cells #[.slice none 0 0, .int .i64 0] 37)).keep0 g
  have n2 := (IsB.new (w.alloc (.cells #[.slice a bs.length c, .int .i64 pos] 37)) 37 #[.slice none 0 0, .int .i64 0]).keep0 g
  rw [hsz] at n2
  have N1 := Lib.hid n1
  have N2 := Lib.hid n2
  have G := Lib.hid (show w.grownBy w' none from gb_trans (gb_trans (gb_alloc _ _ _) (gb_alloc _ _ _)) g)
  obtain ⟨gd, cd, hda⟩ := own_head h (by omega)
  injection hda with hda1 _ hda2
  subst hda1; subst hda2
  have H := Lib.hid h
  clear n1 n2 g hsz h
  go_loopw [7, 8] (fun v i wr => ∃ k : Nat, k ≤ n.toNat ∧ v = .int .u32 (accB bs pos k) ∧ i = .int .i64 k ∧ IsB wr w.heap.size 37 #[.slice (some ⟨gd, 0, none⟩) bs.length c, .int .i64 (pos + k : Nat)] ∧ IsB wr (w.heap.size + 1) 37 #[.slice none 0 0, .int .i64 0] ∧ w.grownBy wr none) (fun _ i _ => n.toNat - (intOf i).toNat)
  case atStart => exact ⟨0, Nat.zero_le _, rfl, rfl, N1.out, N2.out, G.out⟩
  case round =>
    obtain ⟨k, hk, rfl, rfl, q1, q2, qg⟩ := hrel
    clear N1 N2 G
    have N1 := Lib.hid q1
    have N2 := Lib.hid q2
    have G := Lib.hid qg
    have c0 : wr.cell? ⟨w.heap.size, 0, none⟩ = some (.slice (some ⟨gd, 0, none⟩) bs.length c) := q1.cell 0
    have c1 : wr.cell? ⟨w.heap.size, 1, none⟩ = some (.int .i64 (pos + k : Nat)) := q1.cell 1
    clear q1 q2 qg
    by_cases hlt : (k : Int) < n
    · have f1 := N1.out.free 1
      have cx := own_cell (own_keep0 H.out G.out) ((pos + k) / 8) (by omega)
      have hx := hb (bs.getD ((pos + k) / 8) 0) (by rw [List.getD_eq_getElem?_getD, List.getElem?_eq_getElem (by omega)]; exact List.getElem_mem _)
      have BA := Lib.hid (show bs.getD ((pos + k) / 8) 0 / 2 ^ (7 - (pos + k) % 8) % 2 = bitAt bs (pos + k) from rfl)
      generalize bs.getD ((pos + k) / 8) 0 = x at *
      have ra := accB_range bs pos k
      have rb := bitAt_range bs (pos + k)
      have rp := pow_mono k 31 (by omega)
      have rc : accB bs pos k < 2147483648 := by simp at rp; omega
      have RA0 := Lib.hid (And.intro ra.1 rc)
      have SET := Lib.hid (N1.out.set 1 (.int .i64 ((pos + k : Nat) + 1 : Int)))
      have SET2 := Lib.hid (N2.out.set_far (show w.heap.size + 1 ≠ w.heap.size by omega) 1 (.int .i64 ((pos + k : Nat) + 1 : Int)))
      have GS := Lib.hid (gb_set1 (i := 1) (u := .int .i64 ((pos + k : Nat) + 1 : Int)) G.out (Nat.le_refl w.heap.size))
      generalize hpk : pos + k = pk at *
      have hi : (pk : Int) / 8 < bs.length := by omega
      have HPK := Lib.hid hpk
      clear hpk ra rb rp
      go_wp2
      go_roundw
      case rel => exact ⟨k + 1, by omega, val_u (by rw [read_step _ _ _ RA0.out hx.1, BA.out, ← HPK.out]; rfl), by go_num, by rw [show ((pos + (k + 1) : Nat) : Int) = (pk : Int) + 1 by have := HPK.out; omega]; exact SET.out, SET2.out, GS.out⟩
      case measure => simp [intOf]; omega
    · have EK := Lib.hid (show k = n.toNat by omega)
      have d0 : wr.cell? ⟨w.heap.size + 1, 0, none⟩ = some (.slice none 0 0) := N2.out.cell 0
      have d1 : wr.cell? ⟨w.heap.size + 1, 1, none⟩ = some (.int .i64 0) := N2.out.cell 1
      have f0 := N2.out.free 0
      have f1 := N2.out.free 1
      go_wp2
      have N3 := (N2.out.set 0 (.slice (some ⟨gd, 0, none⟩) bs.length c)).set 1 (.int .i64 (pos + k : Nat))
      have e0 := N3.cell 0
      have e1 := N3.cell 1
      simp at e0 e1
      refine bodyPost_ret (v := .tuple #[.agg #[.slice (some ⟨gd, 0, none⟩) bs.length c, .int .i64 (pos + k : Nat)], .int .u32 (accB bs pos k), .int .i64 0]) (by simp [results, Try.results19, go_sem, e0, e1]) rfl ⟨?_, gb_set2 G.out (by omega)⟩
      rw [EK.out]
end Go.Proofs.Ytgknooblnpmloaa
