/- Several texts in one: IoRa, IoRb, IoCp, IoRc, IoRd, IoRe, IoRg, IoRest. -/
import Derived.Test.YtngobkghcogahaaGlB
import Derived.Test.YtngobkghcogahaaFrame
import Derived.OwnWalk
import Derived.StillTailTactics
section
namespace Go.Proofs.Ytngobkghcogahaa
open Go.RowKit
set_option linter.unusedVariables false

theorem rwid_any (w : Int) (W : World) : Calls Try.prog 84 #[.int .i64 w] W fun e w' => e = .returned (.bool (okW w)) ∧ W = w' := by
  by_cases h1 : 1 ≤ w
  · by_cases h2 : w ≤ 32
    · have HS := Lib.hid (show true = okW w by simp [okW, h1, h2])
      go_enter Try.func84, Try.ntmps84
      go_wp2
      go_ret
      exact ⟨ret_b HS.out, rfl⟩
    · have HS := Lib.hid (show false = okW w by simp [okW, h2])
      go_enter Try.func84, Try.ntmps84
      go_wp2
      go_ret
      exact ⟨ret_b HS.out, rfl⟩
  · have HS := Lib.hid (show false = okW w by simp [okW, h1])
    go_enter Try.func84, Try.ntmps84
    go_wp2
    go_ret
    exact ⟨ret_b HS.out, rfl⟩
theorem rrem_anyh (w : World) (a : Option Addr) (n c pos : Nat) (hn : n ≤ 60000) (hp : pos ≤ 8 * n) :
    Calls Try.prog 132 #[.agg #[.slice a n c, .int .i64 pos]] w (RetQ (.int .i64 (8 * (n : Int) - pos)) w none fun _ => True) := by
  go_enter Try.func132, Try.ntmps132
  go_wp2
  go_ret
  exact ⟨ret_i rfl, gb_alloc _ _ _, trivial⟩

theorem gb_set2 {w w2 : World} {g i j : Nat} {u v : Value} (G : w.grownBy w2 none) (h : w.heap.size ≤ g) : w.grownBy ((w2.setCell ⟨g, i, none⟩ u).setCell ⟨g, j, none⟩ v) none :=
  gb_new (gb_trans (gb_any G) (gb_trans (gb_set w2 g i u) (gb_set _ g j v))) h
theorem gb_set1 {w w2 : World} {g i : Nat} {u : Value} (G : w.grownBy w2 none) (h : w.heap.size ≤ g) : w.grownBy (w2.setCell ⟨g, i, none⟩ u) none :=
  gb_new (gb_trans (gb_any G) (gb_set w2 g i u)) h
/-- The reference's reader: its value, and the bytes that it owns. -/
def RVal (bs : List Int) (w : World) (e : Ending) (w' : World) : Prop :=
  ∃ a c, e = .returned (.agg #[.slice a bs.length c, .int .i64 0]) ∧ w.grownBy w' none ∧ w'.ownsRow w.heap.size 5 1 (.slice a bs.length c) bs.length (bs.map (Value.int .u8)) ∧ (bs = [] → a = none)

set_option maxRecDepth 100000 in
theorem rnew_anyh (w : World) (a : Option Addr) (n c : Nat) (bs : List Int) (h : SlR w a n c (bs.map (Value.int .u8))) (hn : bs.length ≤ 60000) :
    Calls Try.prog 80 #[.slice a n c] w (RVal bs w) := by
  obtain ⟨i0, hi, hz0, hz1, hz2⟩ := info_parts infoU8
  obtain ⟨hl, hno, hc⟩ := h.alloc (.cells #[.slice none 0 0, .int .i64 0] 122)
  have hl : bs.length = n := by simpa using hl
  subst hl
  have nb := IsB.new w 122 #[.slice none 0 0, .int .i64 0]
  cases a with
  | none =>
    obtain ⟨h0, rfl⟩ := hno rfl
    have hbs : bs = [] := List.length_eq_zero_iff.1 h0
    subst hbs
    have HI := Lib.hid hi
    have d0 : (w.alloc (.cells #[.slice none 0 0, .int .i64 0] 122)).cell? ⟨w.heap.size, 0, none⟩ = some (.slice none 0 0) := nb.cell 0
    have d1 : (w.alloc (.cells #[.slice none 0 0, .int .i64 0] 122)).cell? ⟨w.heap.size, 1, none⟩ = some (.int .i64 0) := nb.cell 1
    clear hno hc hn hz0 hz1 hz2 hi h0
    go_enter Try.func80, Try.ntmps80
    go_wp2_with (at_builtin; refine wpList_append_own_none rfl _ _ 37 rfl w.heap.size 5 i0 1 Try.underlying37 HI.out _ _ _ rfl (World.ownsRow_nil _ _ _ _) rfl ?_)
    refine bodyPost_ret (v := .agg #[.slice none 0 0, .int .i64 0]) (by simp [results, Try.results80, go_sem]) rfl ⟨none, 0, rfl, gb_alloc _ _ _, World.ownsRow_nil _ _ _ _, fun _ => rfl⟩
  | some ad =>
    have HC := Lib.hid (hc ad rfl)
    have HI := Lib.hid hi
    clear hno hc hi
    go_enter Try.func80, Try.ntmps80
    go_wp2_with (at_builtin; refine wpList_append_own _ rfl _ _ 37 rfl w.heap.size 5 i0 (.int .u8 0) 1 1 Try.underlying37 HI.out hz0 hz1 hz2 rfl (by decide) _ 0 [] rfl (World.ownsRow_nil _ _ _ _) ad bs.length c (bs.map (Value.int .u8)) rfl ?c1 HC.out (ints_one _ _) ?c3 ?c4 ?c5 ?_)
    case c1 => simp
    case c3 => unfold maxLen; omega
    case c4 => omega
    case c5 => simp
    · intro v' w2 hown hg hiff
      have O := Lib.hid (show w2.ownsRow w.heap.size 5 1 v' bs.length (bs.map (Value.int .u8)) by simpa using hown)
      have G := Lib.hid (show w.grownBy w2 none from gb_trans (gb_alloc _ _ _) hg)
      have N := Lib.hid (nb.keep0 hg)
      have HN := Lib.hid hiff
      obtain ⟨a2, c2, rfl⟩ := own_shape O.out
      have d0 : w2.cell? ⟨w.heap.size, 0, none⟩ = some (.slice none 0 0) := N.out.cell 0
      have d1 : w2.cell? ⟨w.heap.size, 1, none⟩ = some (.int .i64 0) := N.out.cell 1
      have f0 := N.out.free 0
      have f1 := N.out.free 1
      clear hown hg hiff nb HC HI hz0 hz1 hz2 hl
      go_wp2
      have N3 := (N.out.set 0 (.slice a2 bs.length c2)).set 1 (.int .i64 0)
      have e0 := N3.cell 0
      have e1 := N3.cell 1
      simp at e0 e1
      have k1 := own_keepS O.out (gb_set w2 w.heap.size 0 (.slice a2 bs.length c2)) N.out (by decide)
      have k2 := own_keepS k1 (gb_set _ w.heap.size 1 (.int .i64 0)) (N.out.set 0 (.slice a2 bs.length c2)) (by decide)
      refine bodyPost_ret (v := .agg #[.slice a2 bs.length c2, .int .i64 0]) (by simp [results, Try.results80, go_sem, e0, e1]) rfl ⟨a2, c2, rfl, gb_set2 G.out (Nat.le_refl _), k2, ?_⟩
      intro e
      have k := HN.out.2 e
      injection k

/-- What the reference's ReadBits answers: the reader's value, the number, the error code. -/
def RdV (a : Option Addr) (n c pos2 : Nat) (v er : Int) (w : World) (e : Ending) (w' : World) : Prop :=
  e = .returned (.tuple #[.agg #[.slice a n c, .int .i64 pos2], .int .u32 v, .int .i64 er]) ∧ w.grownBy w' none

theorem val_u {k : IntKind} {a b : Int} (h : a = b) : Value.int k a = .int k b := by rw [h]
theorem read_step (v x : Int) (m : Nat) (h : 0 ≤ v ∧ v < 2147483648) (hx : 0 ≤ x) : (2 * v % 4294967296 + (x / 2 ^ m).tmod 2) % 4294967296 = 2 * v + x / 2 ^ m % 2 := by
  rw [Int.tmod_eq_emod_of_nonneg (Int.ediv_nonneg hx (Int.le_of_lt (pow_pos' m)))]
  omega

set_option maxRecDepth 100000 in
set_option maxHeartbeats 1000000 in
theorem rread_ok (w : World) (base : Nat) (a : Option Addr) (c : Nat) (bs : List Int) (pos : Nat) (n : Int) (h : w.ownsRow base 5 1 (.slice a bs.length c) bs.length (bs.map (Value.int .u8))) (hb : ∀ b ∈ bs, 0 ≤ b ∧ b ≤ 255) (hn : bs.length ≤ 60000)
    (h1 : 1 ≤ n) (h2 : n ≤ 32) (hp : (pos : Int) + n ≤ 8 * bs.length) :
    Calls Try.prog 133 #[.agg #[.slice a bs.length c, .int .i64 pos], .int .i64 n] w (RdV a bs.length c (pos + n.toNat) (accB bs pos n.toNat) 0 w) := by
  have HW := Lib.hid (show okW n = true by simp [okW, h1, h2])
  have hwv := rwid_any n
  rw [HW.out] at hwv
  have HWV := Lib.hid hwv
  clear hwv
  have hle : ¬ 8 * (bs.length : Int) - pos < n := by omega
  go_enter Try.func133, Try.ntmps133
  go_wp2_with (first | (go_at_call 84; refine (HWV.out _).mono ?_; rintro e w' ⟨rfl, rfl⟩) | (go_at_call 132; refine (rrem_anyh _ _ _ _ _ hn (by omega)).mono ?_; rintro e w' ⟨rfl, g, _⟩))
  have hsz : (w.alloc (.cells #[.slice a bs.length c, .int .i64 pos] 122)).heap.size = w.heap.size + 1 := by simp
  have n1 := ((IsB.new w 122 #[.slice a bs.length c, .int .i64 pos]).alloc (.cells #[.slice none 0 0, .int .i64 0] 122)).keep0 g
  have n2 := (IsB.new (w.alloc (.cells #[.slice a bs.length c, .int .i64 pos] 122)) 122 #[.slice none 0 0, .int .i64 0]).keep0 g
  rw [hsz] at n2
  have N1 := Lib.hid n1
  have N2 := Lib.hid n2
  have G := Lib.hid (show w.grownBy w' none from gb_trans (gb_trans (gb_alloc _ _ _) (gb_alloc _ _ _)) g)
  obtain ⟨gd, cd, hda⟩ := own_head h (by omega)
  injection hda with hda1 _ hda2
  subst hda1; subst hda2
  have H := Lib.hid h
  clear n1 n2 g hsz h
  go_loopw [7, 8] (fun v i wr => ∃ k : Nat, k ≤ n.toNat ∧ v = .int .u32 (accB bs pos k) ∧ i = .int .i64 k ∧ IsB wr w.heap.size 122 #[.slice (some ⟨gd, 0, none⟩) bs.length c, .int .i64 (pos + k : Nat)] ∧ IsB wr (w.heap.size + 1) 122 #[.slice none 0 0, .int .i64 0] ∧ w.grownBy wr none) (fun _ i _ => n.toNat - (intOf i).toNat)
  case atStart => exact ⟨0, Nat.zero_le _, rfl, rfl, N1.out, N2.out, G.out⟩
  case round =>
    obtain ⟨k, hk, rfl, rfl, q1, q2, qg⟩ := hrel
    clear N1 N2 G
    have N1 := Lib.hid q1
    have N2 := Lib.hid q2
    have G := Lib.hid qg
    have c0 : wr.cell? ⟨w.heap.size, 0, none⟩ = some (.slice (some ⟨gd, 0, none⟩) bs.length c) := q1.cell 0
    have c1 : wr.cell? ⟨w.heap.size, 1, none⟩ = some (.int .i64 (pos + k : Nat)) := q1.cell 1
    clear q1 q2 qg
    by_cases hlt : (k : Int) < n
    · have f1 := N1.out.free 1
      have cx := own_cell (own_keep0 H.out G.out) ((pos + k) / 8) (by omega)
      have hx := hb (bs.getD ((pos + k) / 8) 0) (by rw [List.getD_eq_getElem?_getD, List.getElem?_eq_getElem (by omega)]; exact List.getElem_mem _)
      have BA := Lib.hid (show bs.getD ((pos + k) / 8) 0 / 2 ^ (7 - (pos + k) % 8) % 2 = bitAt bs (pos + k) from rfl)
      generalize bs.getD ((pos + k) / 8) 0 = x at *
      have ra := accB_range bs pos k
      have rb := bitAt_range bs (pos + k)
      have rp := pow_mono k 31 (by omega)
      have rc : accB bs pos k < 2147483648 := by simp at rp; omega
      have RA0 := Lib.hid (And.intro ra.1 rc)
      have SET := Lib.hid (N1.out.set 1 (.int .i64 ((pos + k : Nat) + 1 : Int)))
      have SET2 := Lib.hid (N2.out.set_far (show w.heap.size + 1 ≠ w.heap.size by omega) 1 (.int .i64 ((pos + k : Nat) + 1 : Int)))
      have GS := Lib.hid (gb_set1 (i := 1) (u := .int .i64 ((pos + k : Nat) + 1 : Int)) G.out (Nat.le_refl w.heap.size))
      generalize hpk : pos + k = pk at *
      have hi : (pk : Int) / 8 < bs.length := by omega
      have HPK := Lib.hid hpk
      clear hpk ra rb rp
      go_wp2
      go_roundw
      case rel => exact ⟨k + 1, by omega, val_u (by rw [read_step _ _ _ RA0.out hx.1, BA.out, ← HPK.out]; rfl), by go_num, by rw [show ((pos + (k + 1) : Nat) : Int) = (pk : Int) + 1 by have := HPK.out; omega]; exact SET.out, SET2.out, GS.out⟩
      case measure => simp [intOf]; omega
    · have EK := Lib.hid (show k = n.toNat by omega)
      have d0 : wr.cell? ⟨w.heap.size + 1, 0, none⟩ = some (.slice none 0 0) := N2.out.cell 0
      have d1 : wr.cell? ⟨w.heap.size + 1, 1, none⟩ = some (.int .i64 0) := N2.out.cell 1
      have f0 := N2.out.free 0
      have f1 := N2.out.free 1
      go_wp2
      have N3 := (N2.out.set 0 (.slice (some ⟨gd, 0, none⟩) bs.length c)).set 1 (.int .i64 (pos + k : Nat))
      have e0 := N3.cell 0
      have e1 := N3.cell 1
      simp at e0 e1
      refine bodyPost_ret (v := .tuple #[.agg #[.slice (some ⟨gd, 0, none⟩) bs.length c, .int .i64 (pos + k : Nat)], .int .u32 (accB bs pos k), .int .i64 0]) (by simp [results, Try.results133, go_sem, e0, e1]) rfl ⟨?_, gb_set2 G.out (by omega)⟩
      rw [EK.out]
end Go.Proofs.Ytngobkghcogahaa
end
section
namespace Go.Proofs.Ytngobkghcogahaa
open Go.RowKit
set_option linter.unusedVariables false

theorem rread_width (w : World) (a : Option Addr) (c len pos : Nat) (n : Int) (hv : okW n = false) :
    Calls Try.prog 133 #[.agg #[.slice a len c, .int .i64 pos], .int .i64 n] w (RdV a len c pos 0 10 w) := by
  have hwv := rwid_any n
  rw [hv] at hwv
  have HWV := Lib.hid hwv
  clear hwv hv
  go_enter Try.func133, Try.ntmps133
  go_wp2_with (go_at_call 84; refine (HWV.out _).mono ?_; rintro e w' ⟨rfl, rfl⟩)
  refine bodyPost_ret (v := .tuple #[.agg #[.slice a len c, .int .i64 pos], .int .u32 0, .int .i64 10]) (by simp [results, Try.results133, go_sem]) rfl ⟨rfl, gb_trans (gb_alloc _ _ _) (gb_alloc _ _ _)⟩
theorem rread_short (w : World) (a : Option Addr) (c len pos : Nat) (n : Int) (hn : len ≤ 60000) (h1 : 1 ≤ n) (h2 : n ≤ 32) (hq : pos ≤ 8 * len) (hp : 8 * (len : Int) < pos + n) :
    Calls Try.prog 133 #[.agg #[.slice a len c, .int .i64 pos], .int .i64 n] w (RdV a len c pos 0 3 w) := by
  have hwv := rwid_any n
  rw [show okW n = true by simp [okW, h1, h2]] at hwv
  have HWV := Lib.hid hwv
  clear hwv
  have hle : 8 * (len : Int) - pos < n := by omega
  have nb1 := IsB.new w 122 #[.slice a len c, .int .i64 pos]
  have hsz : (w.alloc (.cells #[.slice a len c, .int .i64 pos] 122)).heap.size = w.heap.size + 1 := by simp
  have nb2 := IsB.new (w.alloc (.cells #[.slice a len c, .int .i64 pos] 122)) 122 #[.slice none 0 0, .int .i64 0]
  rw [hsz] at nb2
  have NB1 := Lib.hid (nb1.alloc (.cells #[.slice none 0 0, .int .i64 0] 122))
  have NB2 := Lib.hid nb2
  clear nb1 nb2 hsz
  go_enter Try.func133, Try.ntmps133
  go_wp2_with fail
  refine (HWV.out _).mono ?_
  rintro e w1 ⟨rfl, rfl⟩
  go_wp2_with fail
  refine (rrem_anyh _ _ _ _ _ hn (by omega)).mono ?_
  rintro e w2 ⟨rfl, g, _⟩
  have N1 := Lib.hid (NB1.out.keep0 g)
  have N2 := Lib.hid (NB2.out.keep0 g)
  have G := Lib.hid (show w.grownBy w2 none from gb_trans (gb_trans (gb_alloc _ _ _) (gb_alloc _ _ _)) g)
  have c0 : w2.cell? ⟨w.heap.size, 0, none⟩ = some (.slice a len c) := N1.out.cell 0
  have c1 : w2.cell? ⟨w.heap.size, 1, none⟩ = some (.int .i64 pos) := N1.out.cell 1
  have d0 : w2.cell? ⟨w.heap.size + 1, 0, none⟩ = some (.slice none 0 0) := N2.out.cell 0
  have d1 : w2.cell? ⟨w.heap.size + 1, 1, none⟩ = some (.int .i64 0) := N2.out.cell 1
  have f0 := N2.out.free 0
  have f1 := N2.out.free 1
  clear g NB1 NB2
  go_wp2
  have N3 := (N2.out.set 0 (.slice a len c)).set 1 (.int .i64 pos)
  have e0 := N3.cell 0
  have e1 := N3.cell 1
  simp at e0 e1
  refine bodyPost_ret (v := .tuple #[.agg #[.slice a len c, .int .i64 pos], .int .u32 0, .int .i64 3]) (by simp [results, Try.results133, go_sem, e0, e1]) rfl ⟨rfl, gb_set2 G.out (by omega)⟩
theorem rread_any (w : World) (base : Nat) (a : Option Addr) (c : Nat) (bs : List Int) (pos : Nat) (n : Int) (h : w.ownsRow base 5 1 (.slice a bs.length c) bs.length (bs.map (Value.int .u8))) (hb : ∀ b ∈ bs, 0 ≤ b ∧ b ≤ 255) (hn : bs.length ≤ 60000)
    (hp : pos ≤ 8 * bs.length) (er v : Int) (pos2 : Nat) (hq : rdStep bs pos n = (er, v, pos2)) :
    Calls Try.prog 133 #[.agg #[.slice a bs.length c, .int .i64 pos], .int .i64 n] w (RdV a bs.length c pos2 v er w) := by
  unfold rdStep at hq
  by_cases hv : okW n = true
  · rw [if_pos hv] at hq
    have h2 : 1 ≤ n ∧ n ≤ 32 := of_decide_eq_true hv
    by_cases hf : (pos : Int) + n ≤ 8 * bs.length
    · rw [if_pos hf] at hq
      simp only [Prod.mk.injEq] at hq
      obtain ⟨rfl, rfl, rfl⟩ := hq
      exact rread_ok w base a c bs pos n h hb hn h2.1 h2.2 hf
    · rw [if_neg hf] at hq
      simp only [Prod.mk.injEq] at hq
      obtain ⟨rfl, rfl, rfl⟩ := hq
      exact rread_short w a c bs.length pos n hn h2.1 h2.2 hp (by omega)
  · rw [if_neg hv] at hq
    simp only [Prod.mk.injEq] at hq
    obtain ⟨rfl, rfl, rfl⟩ := hq
    exact rread_width w a c bs.length pos n (by simpa using hv)

end Go.Proofs.Ytngobkghcogahaa
end
section
namespace Go.Proofs.Ytngobkghcogahaa
open Go.RowKit
set_option linter.unusedVariables false

end Go.Proofs.Ytngobkghcogahaa
end
section
namespace Go.Proofs.Ytngobkghcogahaa
open Go.RowKit
set_option linter.unusedVariables false

def restR (bs : List Int) (pos : Nat) : Int × List Int := if pos % 8 = 0 then (0, bs.drop (pos / 8)) else (10, [])
/-- The call returns bytes of its own and an error code; the world only grows. -/
def RetEh (er : Int) (rb : List Int) (w : World) (e : Ending) (w' : World) : Prop :=
  ∃ v', e = .returned (.tuple #[v', .int .i64 er]) ∧ w.grownBy w' none ∧ w'.ownsRow w.heap.size 5 1 v' rb.length (rb.map (Value.int .u8))
theorem Rdr.low {w : World} {base base2 r s : Nat} {V : Value} {bs : List Int} {pos : Nat} (h : Rdr w base r s V bs pos) (hb : base2 ≤ base) : Rdr w base2 r s V bs pos := ⟨h.rb, h.sb, own_low h.own hb⟩

def RIn (W : World) (r s xb : Nat) (V : Value) (bs : List Int) (ax : Option Addr) (cx pos pos2 : Nat) (w : World) : Prop :=
  Rdr w W.heap.size r s V bs pos2 ∧ IsB w xb 122 #[.slice ax bs.length cx, .int .i64 pos] ∧ w.ownsRow W.heap.size 5 1 (.slice ax bs.length cx) bs.length (bs.map (Value.int .u8)) ∧ Below W.heap.size W w
theorem cell_grown {w w2 : World} {a : Addr} {v : Value} (h : w.cell? a = some v) (k : w.grownBy w2 none) : w2.cell? a = some v := by
  have hl : a.block < w.heap.size := by
    rcases Nat.lt_or_ge a.block w.heap.size with q | q
    · exact q
    · unfold World.cell? at h; rw [Array.getElem?_eq_none q] at h; simp at h
  have e := k.block a.block hl (by simp)
  unfold World.cell? at h ⊢
  rw [e]; exact h
theorem alloc_two {w w2 : World} {x y : Value} {t : TypeId} (g : (w.drew.alloc (.cells #[x, y] t)).grownBy w2 none) : w2.cell? ⟨w.heap.size, 0, none⟩ = some x ∧ w2.cell? ⟨w.heap.size, 1, none⟩ = some y ∧ w2.frozen? ⟨w.heap.size, 0, none⟩ = false ∧ w2.frozen? ⟨w.heap.size, 1, none⟩ = false := by
  have h : IsB w2 w.heap.size t #[x, y] := (IsB.new w.drew t #[x, y]).keep0 g
  exact ⟨h.cell 0, h.cell 1, h.free 0, h.free 1⟩

theorem rin_grown {W w w2 : World} {r s xb : Nat} {V : Value} {bs : List Int} {ax : Option Addr} {cx pos pos2 : Nat} (h : RIn W r s xb V bs ax cx pos pos2 w) (k : w.grownBy w2 none) : RIn W r s xb V bs ax cx pos pos2 w2 :=
  ⟨h.1.keep0 k, h.2.1.keep0 k, own_keep0 h.2.2.1 k, h.2.2.2.grown k h.2.2.2.size (by intro k hk; cases hk)⟩

theorem rrem_any2 (w : World) (a : Option Addr) (n c pos : Nat) (hn : n ≤ 60000) (hp : pos ≤ 8 * n) :
    Calls Try.prog 132 #[.agg #[.slice a n c, .int .i64 pos]] w (RetQ (.int .i64 ((n : Int) * 8 - pos)) w none fun _ => True) := by
  rw [show (n : Int) * 8 - pos = 8 * (n : Int) - pos by omega]
  exact rrem_anyh w a n c pos hn hp
/-- What the round holds where it compares. -/
def Big (W : World) (r s xb : Nat) (V : Value) (bs : List Int) (ax : Option Addr) (cx pos : Nat) (v7 v8 : Value) (rb : List Int) (w : World) : Prop :=
  RIn W r s xb V bs ax cx pos pos w ∧ w.ownsRow W.heap.size 5 1 v7 rb.length (rb.map (Value.int .u8)) ∧ w.ownsRow W.heap.size 5 1 v8 rb.length (rb.map (Value.int .u8))
theorem Big.step {W w w2 : World} {r s xb : Nat} {V : Value} {bs : List Int} {ax : Option Addr} {cx pos : Nat} {v7 v8 : Value} {rb : List Int} (h : Big W r s xb V bs ax cx pos v7 v8 rb w) (k : w.grownBy w2 none) : Big W r s xb V bs ax cx pos v7 v8 rb w2 :=
  ⟨rin_grown h.1 k, own_keep0 h.2.1 k, own_keep0 h.2.2 k⟩
end Go.Proofs.Ytngobkghcogahaa
end
section
namespace Go.Proofs.Ytngobkghcogahaa
open Go.RowKit
set_option linter.unusedVariables false

/-- A list of bits that is owned. -/
def BRow (w : World) (base : Nat) (v : Value) (L : List Bool) : Prop := w.ownsRow base 4 1 v L.length (L.map Value.bool)
theorem gb_row {w w1 w2 : World} {e : TypeId} {size n : Nat} {v : Value} {xs : List Value} (G : w.grownBy w1 none) (k : w1.grownBy w2 v.ownBlock) (h : w1.ownsRow w.heap.size e size v n xs) : w.grownBy w2 none := by
  cases hq : v.ownBlock with
  | none => rw [hq] at k; exact gb_trans G k
  | some g => rw [hq] at k; exact gb_new (gb_trans (gb_any G) k) (h.lt g hq).1
end Go.Proofs.Ytngobkghcogahaa
end
section
namespace Go.Proofs.Ytngobkghcogahaa
open Go.RowKit
set_option linter.unusedVariables false

theorem own_cellB {w : World} {base g c : Nat} {L : List Bool} (h : BRow w base (.slice (some ⟨g, 0, none⟩) L.length c) L) (j : Nat) (hj : j < L.length) : w.cell? ⟨g, j, none⟩ = some (.bool (L.getD j false)) := by
  rw [World.ownsRow.cellAt h j (by omega)]
  simp [hj]
end Go.Proofs.Ytngobkghcogahaa
end
section
namespace Go.Proofs.Ytngobkghcogahaa
open Go.RowKit
set_option linter.unusedVariables false

def bytesR (L : List Bool) : Int × List Int := if L.length % 8 = 0 then (0, packB L) else (10, [])
end Go.Proofs.Ytngobkghcogahaa
end
section
namespace Go.Proofs.Ytngobkghcogahaa
open Go.RowKit
set_option linter.unusedVariables false
set_option maxRecDepth 100000 in
theorem rest_odd (w : World) (base r s : Nat) (V : Value) (bs : List Int) (pos : Nat) (h : Rdr w base r s V bs pos) (hp : ¬ pos % 8 = 0) :
    Calls Try.prog 42 #[.pointer (some ⟨r, 0, none⟩)] w (RetQ (.tuple #[.slice none 0 0, .int .i64 10]) w none fun _ => True) := by
  have c0 : w.cell? ⟨r, 0, none⟩ = some (.pointer (some ⟨s, 0, none⟩)) := h.rb.cell 0
  have c1 : w.cell? ⟨s, 1, none⟩ = some (.int .i64 pos) := h.sb.cell 1
  have hq : ((pos : Int) % 8 != 0) = true := by rw [bne_iff_ne]; omega
  go_enter Try.func42, Try.ntmps42
  go_wp2_with (go_at_call 68; refine (rmade_yes _ _ _ h.rb).mono ?_; rintro e w' ⟨rfl, rfl⟩)
  go_ret2
  exact ⟨rfl, gb_refl _ _, trivial⟩
set_option maxRecDepth 100000 in
theorem rest_even (w : World) (base r s : Nat) (V : Value) (bs : List Int) (pos : Nat) (h : Rdr w base r s V bs pos) (hn : bs.length ≤ 60000) (hne : 0 < bs.length) (q : Nat) (hp : pos = 8 * q) (hq : q ≤ bs.length) :
    Calls Try.prog 42 #[.pointer (some ⟨r, 0, none⟩)] w (RetSh (bs.drop q) w w.heap.size) := by
  obtain ⟨i0, hi, hz0, hz1, hz2⟩ := info_parts infoU8
  obtain ⟨g, c, rfl⟩ := own_head h.own hne
  have c0 : w.cell? ⟨r, 0, none⟩ = some (.pointer (some ⟨s, 0, none⟩)) := h.rb.cell 0
  have c1 : w.cell? ⟨s, 1, none⟩ = some (.int .i64 pos) := h.sb.cell 1
  have c2 : w.cell? ⟨s, 0, none⟩ = some (.slice (some ⟨g, 0, none⟩) bs.length c) := h.sb.cell 0
  have hq8 : ((pos : Int) % 8 != 0) = false := by rw [bne_eq_false_iff_eq]; omega
  have wq : IntKind.i64.wrap ((pos : Int) / 8) = (q : Int) := by rw [IntWalk.i64_in _ (by omega)]; omega
  have HP := Lib.hid hp
  clear hp
  have i1 : (q : Int) ≤ bs.length := by omega
  have i3 : bs.length ≤ c := own_cap h.own
  go_enter Try.func42, Try.ntmps42
  go_wp2_with (go_at_call 68; refine (rmade_yes _ _ _ h.rb).mono ?_; rintro e w' ⟨rfl, rfl⟩)
  go_still_tail 16, (by kernel_rfl)
  change wpList _ _ _ _ _ w.drew
  have ea : (if c = q then some (⟨g, 0, none⟩ : Addr) else some ⟨g, q, none⟩) = some (if c = q then ⟨g, 0, none⟩ else ⟨g, q, none⟩) := by split <;> rfl
  rw [ea]
  have HC := Lib.hid (cut_cells (w := w.drew) (q := q) h.own.drew)
  clear ea wq hq8 c0 c1 c2
  generalize (if c = q then (⟨g, 0, none⟩ : Addr) else ⟨g, q, none⟩) = ad at *
  refine wpList_append_own _ rfl _ _ 37 rfl w.heap.size 5 i0 (.int .u8 0) 1 1 Try.underlying37 hi hz0 hz1 hz2 rfl (by decide) _ 0 [] rfl (World.ownsRow_nil _ _ _ _) ad (bs.length - q) (c - q) ((bs.drop q).map (Value.int .u8)) rfl ?c1 HC.out (ints_one _ _) ?c3 ?c4 ?c5 ?_
  case c1 => simp
  case c3 => unfold maxLen; omega
  case c4 => omega
  case c5 => exact Nat.le_refl _
  · intro v' w1 hown hg hiff
    have HO := Lib.hid hown
    have HF := Lib.hid hiff
    have HG := Lib.hid hg
    clear hown hiff hg HC hi hz0 hz1 hz2
    go_wp2
    go_ret2
    refine ⟨v', rfl, ?_, ?_, ?_⟩
    · exact gb_trans (gb_drew w none) HG.out
    · have k := HO.out
      simpa using k
    · intro e
      refine HF.out.2 ⟨rfl, ?_⟩
      have := congrArg List.length e
      simpa using this
set_option maxRecDepth 100000 in
theorem rest_none (w : World) (base r s : Nat) (h : Rdr w base r s (.slice none 0 0) [] 0) :
    Calls Try.prog 42 #[.pointer (some ⟨r, 0, none⟩)] w (RetEh 0 [] w) := by
  obtain ⟨i0, hi, hz0, hz1, hz2⟩ := info_parts infoU8
  have c0 : w.cell? ⟨r, 0, none⟩ = some (.pointer (some ⟨s, 0, none⟩)) := h.rb.cell 0
  have c1 : w.cell? ⟨s, 1, none⟩ = some (.int .i64 0) := h.sb.cell 1
  have c2 : w.cell? ⟨s, 0, none⟩ = some (.slice none 0 0) := h.sb.cell 0
  have HI := Lib.hid hi
  clear hi hz0 hz1 hz2
  have wq : IntKind.i64.wrap 0 = 0 := by decide
  go_enter Try.func42, Try.ntmps42
  go_wp2_with (go_at_call 68; refine (rmade_yes _ _ _ h.rb).mono ?_; rintro e w' ⟨rfl, rfl⟩)
  go_still_tail 16, (by kernel_rfl)
  change wpList _ _ _ _ _ w.drew
  refine wpList_append_own_none rfl _ _ 37 rfl w.heap.size 5 i0 1 Try.underlying37 HI.out _ _ _ rfl (World.ownsRow_nil _ _ _ _) rfl ?_
  go_wp2
  go_ret2
  exact ⟨_, rfl, gb_drew _ _, World.ownsRow_nil _ _ _ _⟩
theorem rest_any (w : World) (base r s : Nat) (V : Value) (bs : List Int) (pos : Nat) (h : Rdr w base r s V bs pos) (hnil : bs = [] → V = .slice none 0 0) (hn : bs.length ≤ 60000) (hp : pos ≤ 8 * bs.length) :
    Calls Try.prog 42 #[.pointer (some ⟨r, 0, none⟩)] w (RetEh (restR bs pos).1 (restR bs pos).2 w) := by
  unfold restR
  by_cases hm : pos % 8 = 0
  · rw [if_pos hm]
    by_cases hb : bs = []
    · subst hb
      obtain rfl : pos = 0 := by simpa using hp
      have hv := hnil rfl
      subst hv
      simpa using rest_none w base r s h
    · have hne : 0 < bs.length := List.length_pos_iff.2 hb
      refine (rest_even w base r s V bs pos h hn hne (pos / 8) (by omega) (by omega)).mono ?_
      rintro e w' ⟨v', he, g, o, _⟩
      exact ⟨v', he, g, o⟩
  · rw [if_neg hm]
    refine (rest_odd w base r s V bs pos h hm).mono ?_
    rintro e w' ⟨rfl, g, _⟩
    exact ⟨_, rfl, g, World.ownsRow_nil _ _ _ _⟩
end Go.Proofs.Ytngobkghcogahaa
end
