/- The reference's tries: Delete of a stored prefix. -/
import Derived.Test.YtidjggaffioekaaLtO
namespace Go.Proofs.Ytidjggaffioekaa
open Go.RowKit
set_option linter.unusedVariables false

set_option maxRecDepth 100000 in
set_option maxHeartbeats 4000000 in
theorem rdel_some (w : World) (v wi i : Nat) (m : Int) (a : Option Addr) (n c : Nat) (L : List Ent) (p : List Bool) (h : RI w 0 (.slice a n c) wi L) (hn : n = L.length) (hs : Srt wi L) (hL : n ≤ 100000) (hi : i < L.length) (he : (L[i]).1 = p) (hf : ∀ W, w.grownBy W none → Calls Try.prog 31 #[.agg #[.int .i64 wi, .slice a n c], .int .u32 v, .int .i64 m] W (RetV (.int .i64 i) W)) :
    Calls Try.prog 23 #[.agg #[.int .i64 wi, .slice a n c], .int .u32 v, .int .i64 m] w (RetR wi (delL p L) (.bool true) w) := by
  obtain ⟨g, rfl⟩ := own_some (by subst hn; exact h) (by omega : 0 < n)
  have hcap : n ≤ c := by subst hn; exact own_cap h
  have HD := Lib.hid (delL_at hs hi he)
  have DL := Lib.hid (show (delL p L).length + 1 = n by
    have k := delL_len (p := p) (x := (L[i]).2) hs (by rw [← he]; exact List.getElem_mem hi)
    omega)
  have B10 := (IsB.new w 30 #[.int .i64 wi, .slice (some ⟨g, 0, none⟩) n c]).alloc (.cells #[.int .i64 0, .slice none 0 0] 30)
  have B20 := IsB.new (w.alloc (.cells #[.int .i64 wi, .slice (some ⟨g, 0, none⟩) n c] 30)) 30 #[.int .i64 0, .slice none 0 0]
  rw [sz_al] at B20
  have B1 := Lib.hid B10
  have B2 := Lib.hid B20
  have G2 := Lib.hid (gb_trans (gb_alloc w (.cells #[.int .i64 wi, .slice (some ⟨g, 0, none⟩) n c] 30) none) (gb_alloc _ (.cells #[.int .i64 0, .slice none 0 0] 30) none))
  clear B10 B20
  have SS := Lib.hid (fun (W : World) (k : w.grownBy W none) => own_s3 hn (h.keep0 k))
  have HF := Lib.hid hf
  have HN := Lib.hid hn
  have NB := Lib.hid hL
  have k0 : (0 : Int) ≤ (i : Int) := by omega
  have kn : ¬ (i : Int) < 0 := by omega
  have k2 : (i : Int) ≤ c := by omega
  have k3 : (i : Int) + 1 ≤ n := by omega
  have k4 : i ≤ c := by omega
  have k5 : i + 1 ≤ n := by omega
  have hw : IntKind.i64.wrap ((i : Int) + 1) = ((i + 1 : Nat) : Int) := by rw [IntKind.wrap_i64]; omega
  clear h hf hn hi he hs hL
  unfold RetR
  go_enter Try.func23, Try.ntmps23
  go_upto_region 1 with fail
  generalize (w.alloc (.cells #[.int .i64 wi, .slice (some ⟨g, 0, none⟩) n c] 30)).alloc (.cells #[.int .i64 0, .slice none 0 0] 30) = w2 at *
  obtain ⟨z1, hz1⟩ : ∃ x, x = w.heap.size := ⟨_, rfl⟩
  obtain ⟨z2, hz2⟩ : ∃ x, x = w.heap.size + 1 := ⟨_, rfl⟩
  have Z1 := Lib.hid (show w.heap.size ≤ z1 by omega)
  have Z2 := Lib.hid (show w.heap.size ≤ z2 by omega)
  have Z12 := Lib.hid (show z1 ≠ z2 by omega)
  rw [← hz2] at B2 ⊢
  rw [← hz1] at B1 ⊢
  clear hz1 hz2
  have b0 := B1.out.cell 0
  have b1 := B1.out.cell 1
  dsimp at b0 b1
  have CC := Lib.hid (HF.out _ G2.out)
  go_wp2_with fail
  refine CC.out.mono ?_
  rintro e w3 ⟨rfl, g3⟩
  have G3 := Lib.hid (gb_trans G2.out g3)
  have C1 := Lib.hid (B1.out.keep0 g3)
  have C2 := Lib.hid (B2.out.keep0 g3)
  clear g3 b0 b1
  have c0 := C1.out.cell 0
  have c1 := C1.out.cell 1
  dsimp at c0 c1
  have G3a := Lib.hid (gb_trans G3.out (gb_alloc w3 (.cells #[] 72) none))
  have c1' := (C1.out.keep0 (gb_alloc w3 (.cells #[] 72) none)).cell 1
  dsimp at c1'
  have E0 := Lib.hid (show RI (w3.alloc (.cells #[] 72)) w3.heap.size (.slice (some ⟨w3.heap.size, 0, none⟩) 0 0) wi [] from World.ownsRow_lit (base := w3.heap.size) (e := 72) (size := 3) w3 #[] 0 (Nat.le_refl _) (by unfold maxLen; omega) (by simp))
  have SA := Lib.hid ((SS.out _ G3a.out).pre (itI_3 wi) i (by omega))
  have l1 := Lib.hid (show ([] : List Ent).length + (L.take i).length ≤ 1000000 by have := HN.out; have := NB.out; simp; omega)
  have l2 := Lib.hid (show w3.heap.size ≤ (w3.alloc (.cells #[] 72)).heap.size by rw [sz_al]; omega)
  go_wp2_with (at_builtin; refine pushI rfl _ _ rfl w3.heap.size _ wi [] rfl E0.out (some ⟨g, 0, none⟩) i c (L.take i) rfl SA.out l1.out l2.out ?_)
  intro V4 w4 r4 g4
  have g5 : w3.grownBy w4 none := gb_new (gb_trans (gb_alloc w3 (.cells #[] 72) (some w3.heap.size)) g4) (Nat.le_refl _)
  have r4 : RI w4 w3.heap.size V4 wi (L.take i) := by simpa using r4
  obtain ⟨a4, d4, rfl⟩ := r4.shape
  have lk : (L.take i).length = i := by have := HN.out; simp; omega
  rw [lk] at r4 ⊢
  have R4 := Lib.hid r4
  have G4 := Lib.hid (gb_trans G3.out g5)
  have Z3 := Lib.hid (show w.heap.size ≤ w3.heap.size from G3.out.size)
  have Z4 := Lib.hid (show w3.heap.size ≤ w4.heap.size from g5.size)
  have D1 := Lib.hid (C1.out.keep0 g5)
  have D2 := Lib.hid (C2.out.keep0 g5)
  clear r4 g4 g5 lk c1' E0 SA l1 l2 c0 c1
  have e1 := D1.out.cell 1
  dsimp at e1
  generalize w3.heap.size = z3 at *
  by_cases hce : c = i + 1
  · obtain rfl : n = i + 1 := by omega
    subst hce
    have S7 := Lib.hid (show S3 (itI wi) w4 (some ⟨g, 0, none⟩) 0 0 (L.drop (i + 1)) by have q := (SS.out _ G4.out).cut (itI_3 wi) (i + 1) k5 hcap; simpa using q)
    have l3 := Lib.hid (show (L.take i).length + (L.drop (i + 1)).length ≤ 1000000 by have := HN.out; have := NB.out; simp; omega)
    go_wp2_with (at_builtin; refine pushI rfl _ _ rfl z3 _ wi (L.take i) rfl R4.out (some ⟨g, 0, none⟩) 0 0 (L.drop (i + 1)) rfl S7.out l3.out Z4.out ?_)
    intro V6 w6 r6 g6
    have r6 : RI w6 z3 V6 wi (delL p L) := by have k := HD.out; rwa [k] at r6
    obtain ⟨a6, c6, rfl⟩ := r6.shape
    obtain ⟨m6, hm6⟩ : ∃ m6, m6 = (delL p L).length := ⟨_, rfl⟩
    have M6 := Lib.hid hm6
    rw [← hm6] at r6 ⊢
    clear hm6
    have o1 := own_ne R4.out D1.out (by decide)
    have o2 := own_ne R4.out D2.out (by decide)
    have LW := Lib.hid (fun g (e : (Value.slice a4 i d4).ownBlock = some g) => (World.ownsRow.lt R4.out g e).1)
    have q1 := D1.out.keep g6 (Ne.symm o1)
    have q2 := D2.out.keep g6 (Ne.symm o2)
    have Q1 := Lib.hid q1
    have Q2 := Lib.hid q2
    have R6 := Lib.hid r6
    have G6 := Lib.hid (gb_lows G4.out g6 fun g e => Nat.le_trans Z3.out (LW.out g e))
    have h0 := q1.cell 0
    have h1 := q1.cell 1
    have h2 := q1.free 1
    have h3 := q2.free 0
    have h4 := q2.free 1
    dsimp at h0 h1
    have Y1 := q1.set 1 (.slice a6 m6 c6)
    have Y2 := q2.set_far (Ne.symm Z12.out) 1 (.slice a6 m6 c6)
    have h5 : (w6.setCell ⟨z1, 1, none⟩ (.slice a6 m6 c6)).cell? ⟨z1, 0, none⟩ = some (.int .i64 wi) := Y1.cell 0
    have h6 : (w6.setCell ⟨z1, 1, none⟩ (.slice a6 m6 c6)).cell? ⟨z1, 1, none⟩ = some (.slice a6 m6 c6) := Y1.cell 1
    have h7 := Y2.free 0
    have h9 : (w6.setCell ⟨z1, 1, none⟩ (.slice a6 m6 c6)).cell? ⟨z2, 0, none⟩ = some (.int .i64 0) := Y2.cell 0
    have h10 : (w6.setCell ⟨z1, 1, none⟩ (.slice a6 m6 c6)).cell? ⟨z2, 1, none⟩ = some (.slice none 0 0) := Y2.cell 1
    have h8 := Y2.free 1
    replace Y2 := Lib.hid Y2
    clear r6 g6 q1 q2 o1 o2 e1 Y1
    go_wp2
    (try simp only [Exit.inBlock, Exit.then])
    refine bodyPost_ret (v := .tuple #[.agg #[.int .i64 wi, .slice a6 m6 c6], .bool true]) (by rw [results_cell_tmp rfl]; go_simp; try rfl) rfl ⟨a6, m6, c6, rfl, M6.out, ?_, gb_put (gb_put (gb_put G6.out Z1.out) Z2.out) Z2.out⟩
    exact own_kept (own_kept (own_kept R6.out.low Q1.out (by decide)) Y2.out (by decide)) (Y2.out.set 0 _) (by decide)
  · have S7 := Lib.hid (show S3 (itI wi) w4 (some ⟨g, (i + 1) * 3, none⟩) (n - (i + 1)) (c - (i + 1)) (L.drop (i + 1)) by have q := (SS.out _ G4.out).cut (itI_3 wi) (i + 1) k5 hcap; rwa [if_neg hce] at q)
    have l3 := Lib.hid (show (L.take i).length + (L.drop (i + 1)).length ≤ 1000000 by have := HN.out; have := NB.out; simp; omega)
    go_wp2_with (at_builtin; refine pushI rfl _ _ rfl z3 _ wi (L.take i) rfl R4.out (some ⟨g, (i + 1) * 3, none⟩) (n - (i + 1)) (c - (i + 1)) (L.drop (i + 1)) rfl S7.out l3.out Z4.out ?_)
    intro V6 w6 r6 g6
    have r6 : RI w6 z3 V6 wi (delL p L) := by have k := HD.out; rwa [k] at r6
    obtain ⟨a6, c6, rfl⟩ := r6.shape
    obtain ⟨m6, hm6⟩ : ∃ m6, m6 = (delL p L).length := ⟨_, rfl⟩
    have M6 := Lib.hid hm6
    rw [← hm6] at r6 ⊢
    clear hm6
    have o1 := own_ne R4.out D1.out (by decide)
    have o2 := own_ne R4.out D2.out (by decide)
    have LW := Lib.hid (fun g (e : (Value.slice a4 i d4).ownBlock = some g) => (World.ownsRow.lt R4.out g e).1)
    have q1 := D1.out.keep g6 (Ne.symm o1)
    have q2 := D2.out.keep g6 (Ne.symm o2)
    have Q1 := Lib.hid q1
    have Q2 := Lib.hid q2
    have R6 := Lib.hid r6
    have G6 := Lib.hid (gb_lows G4.out g6 fun g e => Nat.le_trans Z3.out (LW.out g e))
    have h0 := q1.cell 0
    have h1 := q1.cell 1
    have h2 := q1.free 1
    have h3 := q2.free 0
    have h4 := q2.free 1
    dsimp at h0 h1
    have Y1 := q1.set 1 (.slice a6 m6 c6)
    have Y2 := q2.set_far (Ne.symm Z12.out) 1 (.slice a6 m6 c6)
    have h5 : (w6.setCell ⟨z1, 1, none⟩ (.slice a6 m6 c6)).cell? ⟨z1, 0, none⟩ = some (.int .i64 wi) := Y1.cell 0
    have h6 : (w6.setCell ⟨z1, 1, none⟩ (.slice a6 m6 c6)).cell? ⟨z1, 1, none⟩ = some (.slice a6 m6 c6) := Y1.cell 1
    have h7 := Y2.free 0
    have h9 : (w6.setCell ⟨z1, 1, none⟩ (.slice a6 m6 c6)).cell? ⟨z2, 0, none⟩ = some (.int .i64 0) := Y2.cell 0
    have h10 : (w6.setCell ⟨z1, 1, none⟩ (.slice a6 m6 c6)).cell? ⟨z2, 1, none⟩ = some (.slice none 0 0) := Y2.cell 1
    have h8 := Y2.free 1
    replace Y2 := Lib.hid Y2
    clear r6 g6 q1 q2 o1 o2 e1 Y1
    go_wp2
    (try simp only [Exit.inBlock, Exit.then])
    refine bodyPost_ret (v := .tuple #[.agg #[.int .i64 wi, .slice a6 m6 c6], .bool true]) (by rw [results_cell_tmp rfl]; go_simp; try rfl) rfl ⟨a6, m6, c6, rfl, M6.out, ?_, gb_put (gb_put (gb_put G6.out Z1.out) Z2.out) Z2.out⟩
    exact own_kept (own_kept (own_kept R6.out.low Q1.out (by decide)) Y2.out (by decide)) (Y2.out.set 0 _) (by decide)
end Go.Proofs.Ytidjggaffioekaa
