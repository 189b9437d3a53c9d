/- Tries: Insert, New. -/
import Derived.Test.YtidjggaffioekaaLtI
namespace Go.Proofs.Ytidjggaffioekaa
open Go.RowKit
set_option linter.unusedVariables false

theorem keep_ptr (a f : Nat) (p : List Bool) (x : Int) (B : Tr) : ptr (keep a f p x B) = ptr (graft a f p B) ∧ blks (keep a f p x B) = blks (graft a f p B) := by
  cases B with
  | nil => exact ⟨rfl, rfl⟩
  | node b q st y l r =>
    simp only [keep, graft]
    split
    · exact ⟨rfl, rfl⟩
    · split <;> split <;> exact ⟨rfl, rfl⟩
theorem keep_tn {w : World} {wd : Nat} {a f : Nat} {p : List Bool} {x : Int} {B : Tr} (h : TN w wd (graft a f p B)) (nd : (blks (graft a f p B)).Nodup) :
    TN ((w.setCell ⟨gblk a p B, 2, none⟩ (.bool true)).setCell ⟨gblk a p B, 3, none⟩ (.int .i64 x)) wd (keep a f p x B) := by
  have two : ∀ {g : Nat} {c0 c1 c2 c3 c4 c5 : Value}, IsB w g 82 #[c0, c1, c2, c3, c4, c5] → IsB ((w.setCell ⟨g, 2, none⟩ (.bool true)).setCell ⟨g, 3, none⟩ (.int .i64 x)) g 82 #[c0, c1, .bool true, .int .i64 x, c4, c5] := fun k => by simpa using (k.set 2 (.bool true)).set 3 (.int .i64 x)
  have far : ∀ {g : Nat} {T : Tr}, TN w wd T → g ∉ blks T → TN ((w.setCell ⟨g, 2, none⟩ (.bool true)).setCell ⟨g, 3, none⟩ (.int .i64 x)) wd T := fun k n => (k.far n).far n
  cases B with
  | nil => exact ⟨two h.1, trivial, trivial⟩
  | node b q st y l r =>
    simp only [graft, keep, gblk] at *
    split
    · rename_i e
      rw [if_pos e] at h nd
      simp only [blks, List.nodup_cons, List.mem_append, not_or] at nd
      exact ⟨two h.1, far h.2.1 nd.1.1, far h.2.2 nd.1.2⟩
    · rename_i e
      rw [if_neg e] at h nd
      split
      · rename_i e2
        rw [if_pos e2] at h nd
        split
        · rename_i e3
          rw [if_pos e3] at h nd
          simp only [blks, List.nil_append] at nd
          exact ⟨two h.1, trivial, far h.2.2 (by simpa [blks] using (List.nodup_cons.1 nd).1)⟩
        · rename_i e3
          rw [if_neg e3] at h nd
          simp only [blks, List.append_nil] at nd
          exact ⟨two h.1, far h.2.1 (by simpa [blks] using (List.nodup_cons.1 nd).1), trivial⟩
      · rename_i e2
        rw [if_neg e2] at h nd
        split
        · rename_i e3
          rw [if_pos e3] at h nd
          have k1 := List.nodup_cons.1 nd
          have k2 := List.nodup_append.1 k1.2
          have fa : f ≠ a := fun e => k1.1 (by simp [blks, e])
          exact ⟨(h.1.set_far fa 2 _).set_far fa 3 _, far h.2.1 (fun m => k2.2.2 a m a (by simp [blks]) rfl), two h.2.2.1, trivial, trivial⟩
        · rename_i e3
          rw [if_neg e3] at h nd
          have k1 := List.nodup_cons.1 nd
          have k2 := List.nodup_append.1 k1.2
          have fa : f ≠ a := fun e => k1.1 (by simp [blks, e])
          exact ⟨(h.1.set_far fa 2 _).set_far fa 3 _, ⟨two h.2.1.1, trivial, trivial⟩, far h.2.2 (fun m => k2.2.2 a (by simp [blks]) a m rfl)⟩
theorem gblk_cell {w : World} {wd : Nat} {a f : Nat} {p : List Bool} {B : Tr} (h : TN w wd (graft a f p B)) : ∃ c0 c1 x c4 c5, IsB w (gblk a p B) 82 #[c0, c1, .bool (gst p B), .int .i64 x, c4, c5] := by
  cases B with
  | nil => exact ⟨_, _, _, _, _, h.1⟩
  | node b q st y l r =>
    simp only [graft, gblk, gst] at *
    split
    · rename_i e
      rw [if_pos e] at h
      rw [show (decide (q = p) && st) = st by simp [e]]
      exact ⟨_, _, _, _, _, h.1⟩
    · rename_i e
      rw [if_neg e] at h
      simp only [e, decide_false, Bool.false_and]
      split at h
      · split at h <;> exact ⟨_, _, _, _, _, h.1⟩
      · split at h
        · exact ⟨_, _, _, _, _, h.2.2.1⟩
        · exact ⟨_, _, _, _, _, h.2.1.1⟩
theorem gblk_in (a f : Nat) (p : List Bool) (B : Tr) : gblk a p B ∈ blks (graft a f p B) := by
  cases B with
  | nil => simp [gblk, graft, blks]
  | node b q st y l r =>
    simp only [graft, gblk]
    split
    · simp [blks]
    · split <;> split <;> simp [blks]
theorem ins_len (w : Nat) (e : Ent) (L : List Ent) : (insL w e L).length = L.length + 1 := by
  rw [insL_at]; simp; omega
theorem graft_same {a f : Nat} {p : List Bool} {B : Tr} (h : gst p B = true) : graft a f p B = B := by
  cases B with
  | nil => simp [gst] at h
  | node b q st y l r => simp [gst] at h; simp [graft, h.1]
/-- p stored, in memory. -/
theorem LS.stored {W w : World} {q s wd : Nat} {T : Tr} {p : List Bool} {a f : Nat} {x : Int} (h : LS W q s wd (put T (desc p T) (graft a f p (sub T (desc p T)))) w) (ok : Ok wd [] T) (hp : p.length ≤ wd) (hn : getT p T = none) :
    LS W q s wd (insT a f p x T) (((w.setCell ⟨gblk a p (sub T (desc p T)), 2, none⟩ (.bool true)).setCell ⟨gblk a p (sub T (desc p T)), 3, none⟩ (.int .i64 x)).setCell ⟨s, 2, none⟩ (.int .i64 ((ents T).length + 1 : Nat))) := by
  have hi := desc_in p T
  obtain ⟨A, B, h1, h2⟩ := put_blks T (desc p T) hi
  obtain ⟨A2, B2, g1, g2⟩ := put_ents T (desc p T) hi
  have kp := keep_ptr a f p x (sub T (desc p T))
  have hb : blks (insT a f p x T) = blks (put T (desc p T) (graft a f p (sub T (desc p T)))) := by unfold insT; rw [h2, h2, kp.2]
  have gin : gblk a p (sub T (desc p T)) ∈ blks (put T (desc p T) (graft a f p (sub T (desc p T)))) := by rw [h2]; simp [gblk_in]
  have gs : s ≠ gblk a p (sub T (desc p T)) := fun e => h.sb (by rw [e]; exact gin)
  have gq : q ≠ gblk a p (sub T (desc p T)) := fun e => h.qb (by rw [e]; exact gin)
  have nG : (blks (graft a f p (sub T (desc p T)))).Nodup := by
    have k := h.nd
    rw [h2, List.nodup_append, List.nodup_append] at k
    exact k.1.2.1
  have tG : TN w wd (graft a f p (sub T (desc p T))) := by
    have k := sub_tn _ (desc p T) h.tn
    have e : ∀ (T N : Tr) (d : List Bool), inT T d → sub (put T d N) d = N := by
      intro T N d
      induction d generalizing T with
      | nil => intro _; cases T <;> (cases N <;> rfl)
      | cons c t ih =>
        intro hi
        cases T with
        | nil => exact absurd hi (by simp [inT])
        | node b q st x l r => cases c <;> simp [put, sub] <;> exact ih _ (by simpa [inT] using hi)
    rwa [e T _ _ hi] at k
  have pt : ∀ d, inT T d → ptr (put T d (keep a f p x (sub T (desc p T)))) = ptr (put T d (graft a f p (sub T (desc p T)))) := fun d _ => by
    cases d with
    | nil => cases T <;> exact kp.1
    | cons c t => rw [ptr_put, ptr_put]
  have tK : TN ((w.setCell ⟨gblk a p (sub T (desc p T)), 2, none⟩ (.bool true)).setCell ⟨gblk a p (sub T (desc p T)), 3, none⟩ (.int .i64 x)) wd (insT a f p x T) :=
    put_tn2 kp.1 T (desc p T) hi h.tn h.nd (fun g t cs k n => (k.set_far (fun e => n (by rw [e]; exact gblk_in ..)) 2 _).set_far (fun e => n (by rw [e]; exact gblk_in ..)) 3 _) (keep_tn tG nG)
  have hE : ents (put T (desc p T) (graft a f p (sub T (desc p T)))) = ents T := by rw [g2, g1, graft_ents]
  refine ⟨?_, ?_, tK.far (by rw [hb]; exact h.sb), by rw [hb]; exact h.nd, insT_ok ok hp, h.w1, h.w2, ?_, h.lowq, h.lows, by rw [hb]; exact h.lowb⟩
  · exact ((h.qv.set_far gq 2 _).set_far gq 3 _).set_far h.ne 2 _
  · have k := ((h.sv.set_far gs 2 (.bool true)).set_far gs 3 (.int .i64 x)).set 2 (.int .i64 ((ents T).length + 1 : Nat))
    rw [insT_ents ok hp hn, ins_len]
    have e := pt _ hi
    unfold insT
    rw [e]
    simpa using k
  · exact gb_put (gb_put (gb_put h.grown (h.lowb _ gin)) (h.lowb _ gin)) h.lows
set_option maxRecDepth 100000 in
theorem new_bad (w : World) (n : Int) (h : ¬ (1 ≤ n ∧ n ≤ 32)) : Calls Try.prog 9 #[.int .i64 n] w (RetV (.tuple #[.pointer none, .int .i64 10]) w) := by
  have FT := Lib.hid (fun W => (fits_any 0 n W).mono fun _ _ k => (⟨k.1, gb_gr k.2 none⟩ : RetV _ W _ _))
  rw [show fitsB 0 n = false from decide_eq_false (fun k => h ⟨k.1, k.2.1⟩)] at FT
  clear h
  go_enter Try.func9, Try.ntmps9
  go_wp2_with fail
  refine (FT.out _).mono ?_
  rintro e w1 ⟨rfl, g⟩
  have G := Lib.hid g
  clear g
  go_wp2
  go_ret2
  exact ⟨rfl, G.out⟩
def RetT (n : Int) (w : World) (e : Ending) (w' : World) : Prop := ∃ q s, e = .returned (.tuple #[.pointer (some ⟨q, 0, none⟩), .int .i64 0]) ∧ IsB w' q 61 #[.pointer (some ⟨s, 0, none⟩)] ∧ IsB w' s 66 #[.int .i64 n, .pointer none, .int .i64 0] ∧ w.grownBy w' none ∧ w.heap.size ≤ q ∧ w.heap.size ≤ s
set_option maxRecDepth 100000 in
theorem new_good (w : World) (n : Int) (h : 1 ≤ n ∧ n ≤ 32) : Calls Try.prog 9 #[.int .i64 n] w (RetT n w) := by
  have FT := Lib.hid (fun W => (fits_any 0 n W).mono fun _ _ k => (⟨k.1, gb_gr k.2 none⟩ : RetV _ W _ _))
  rw [show fitsB 0 n = true from decide_eq_true ⟨h.1, h.2, by have := pow_pos' n.toNat; omega⟩] at FT
  clear h
  unfold RetT
  go_enter Try.func9, Try.ntmps9
  go_wp2_with fail
  refine (FT.out _).mono ?_
  rintro e w1 ⟨rfl, g⟩
  have G := Lib.hid g
  clear g
  go_wp2
  go_ret2
  refine ⟨_, _, rfl, ?_, (IsB.new w1 _ _).alloc _, gb_trans G.out (gb_trans (gb_alloc _ _ none) (gb_alloc _ _ none)), Nat.le_trans G.out.size (Nat.le_succ _), G.out.size⟩
  have k := IsB.new (w1.alloc (.cells #[.int .i64 n, .pointer none, .int .i64 0] 66)) 61 #[.pointer (some ⟨w1.heap.size, 0, none⟩)]
  rwa [sz_al] at k
theorem LS.new {W w : World} {q s wd : Nat} (hg : W.grownBy w none) (hq : IsB w q 61 #[.pointer (some ⟨s, 0, none⟩)]) (hs : IsB w s 66 #[.int .i64 wd, .pointer none, .int .i64 0]) (h1 : 1 ≤ wd) (h2 : wd ≤ 32) (lq : W.heap.size ≤ q) (ls : W.heap.size ≤ s) : LS W q s wd .nil w :=
  ⟨hq, hs, trivial, List.nodup_nil, trivial, h1, h2, hg, lq, ls, fun b m => by simp [blks] at m⟩
set_option maxRecDepth 100000 in
theorem ins_no (w : World) (v a b c : Value) (h : Calls Try.prog 28 #[v] w (RetS (.bool false) w)) : Calls Try.prog 17 #[v, a, b, c] w (RetV (.int .i64 1) w) := by
  have MD := Lib.hid h
  clear h
  go_enter Try.func17, Try.ntmps17
  go_wp2_with fail
  refine MD.out.mono ?_
  rintro e w1 ⟨rfl, rfl⟩
  go_wp2
  go_ret
  exact ⟨rfl, gb_refl _ _⟩
set_option maxRecDepth 100000 in
theorem ins_bad (W w : World) (q s wd v : Nat) (T : Tr) (n x : Int) (h : LS W q s wd T w) (hn : ¬ (v < 2 ^ wd ∧ 0 ≤ n ∧ n ≤ wd)) : Calls Try.prog 17 #[.pointer (some ⟨q, 0, none⟩), .int .u32 v, .int .i64 n, .int .i64 x] w (RetV (.int .i64 9) w) := by
  have MD := Lib.hid (made_yes w q s h.qv)
  have c0 : w.cell? ⟨q, 0, none⟩ = some (.pointer (some ⟨s, 0, none⟩)) := h.qv.cell 0
  have PB := Lib.hid (pre_bad w s wd v n (h.sv.cell 0) h.w1 h.w2 hn)
  clear h hn
  go_enter Try.func17, Try.ntmps17
  go_wp2_with fail
  refine MD.out.mono ?_
  rintro e w1 ⟨rfl, rfl⟩
  go_wp2_with fail
  refine PB.out.mono ?_
  rintro e w2 ⟨rfl, g⟩
  have G := Lib.hid g
  clear g
  go_wp2
  go_ret
  exact ⟨rfl, gb_trans G.out (gb_alloc _ _ _)⟩
def RetK (W : World) (q s wd : Nat) (p : List Bool) (x : Int) (T : Tr) (w : World) (e : Ending) (w' : World) : Prop := ∃ a f, e = .returned (.int .i64 0) ∧ LS W q s wd (insT a f p x T) w' ∧ Fx (Bs s T) w w'
set_option maxRecDepth 100000 in
set_option maxHeartbeats 4000000 in
theorem ins_dup (W w : World) (q s wd v n : Nat) (T : Tr) (p : List Bool) (x : Int) (h : LS W q s wd T w) (hv : v < 2 ^ wd) (hn : n ≤ wd) (hp : p = (bitsN wd v).take n) (hg : (getT p T).isSome = true) :
    Calls Try.prog 17 #[.pointer (some ⟨q, 0, none⟩), .int .u32 v, .int .i64 n, .int .i64 x] w (RetD W q s wd T (.int .i64 7) T w) := by
  have pl : p.length = n := by rw [hp, List.length_take, bits_len]; omega
  have MD := Lib.hid (made_yes w q s h.qv)
  have c0 : w.cell? ⟨q, 0, none⟩ = some (.pointer (some ⟨s, 0, none⟩)) := h.qv.cell 0
  have PO := Lib.hid (pre_ok w s wd v n (h.sv.cell 0) h.w1 h.w2 hv hn)
  rw [← hp] at PO
  have HH := Lib.hid h
  have GR := Lib.hid (fun (W2 : World) (k : w.grownBy W2 none) => grow_any W W2 q s wd p T (h.keep0 k) (by omega))
  rw [pl] at GR
  unfold RetN at GR
  have HPL := Lib.hid (show p.length ≤ wd by omega)
  unfold RetD
  have HG := Lib.hid hg
  generalize E wd p = ep at *
  clear h hv hn hp hg pl
  go_enter Try.func17, Try.ntmps17
  go_wp2_with fail
  refine MD.out.mono ?_
  rintro e w1 ⟨rfl, rfl⟩
  go_wp2_with fail
  refine PO.out.mono ?_
  rintro e w2 ⟨rfl, g⟩
  have G2 := Lib.hid (gb_trans g (gb_alloc _ (.cells #[.int .u32 ep, .int .i64 n] 79) none))
  have B2 := Lib.hid (IsB.new w2 79 #[.int .u32 ep, .int .i64 n])
  clear g c0
  go_upto_region 7 with fail
  generalize w2.alloc (.cells #[.int .u32 ep, .int .i64 n] 79) = w3 at *
  obtain ⟨z, hz⟩ : ∃ x, x = w2.heap.size := ⟨_, rfl⟩
  rw [← hz] at B2 ⊢
  have b0 := B2.out.cell 0
  have b1 := B2.out.cell 1
  dsimp at b0 b1
  clear hz
  go_wp2_with fail
  refine (GR.out _ G2.out).mono ?_
  rintro e w4 ⟨a, f, rfl, ls, fx, ha, hf⟩
  have L4 := Lib.hid ls
  have FX := Lib.hid ((Fx.of G2.out).trans fx)
  clear ls fx b0 b1
  have GT := Lib.hid (show gst p (sub T (desc p T)) = true by rw [getT_gst]; exact HG.out)
  obtain ⟨c0, c1, y, c4, c5, hB⟩ := gblk_cell (a := a) (f := f) (p := p) (B := sub T (desc p T)) (by
    have e : ∀ (T N : Tr) (d : List Bool), inT T d → sub (put T d N) d = N := by
      intro T N d
      induction d generalizing T with
      | nil => intro _; cases T <;> (cases N <;> rfl)
      | cons c t ih =>
        intro hi
        cases T with
        | nil => exact absurd hi (by simp [inT])
        | node b q st x l r => cases c <;> simp [put, sub] <;> exact ih _ (by simpa [inT] using hi)
    have k := sub_tn _ (desc p T) L4.out.tn
    rwa [e T _ _ (desc_in p T)] at k)
  rw [GT.out] at hB
  have c2 := hB.cell 2
  dsimp at c2
  have L5 := Lib.hid (show LS W q s wd T w4 by
    have k := L4.out
    rwa [graft_same GT.out, put_sub T (desc p T) (desc_in p T)] at k)
  clear hB
  generalize gblk a p (sub T (desc p T)) = g at *
  go_wp2
  go_ret
  exact ⟨rfl, L5.out, FX.out⟩
set_option maxRecDepth 100000 in
set_option maxHeartbeats 4000000 in
theorem ins_ok (W w : World) (q s wd v n : Nat) (T : Tr) (p : List Bool) (x : Int) (h : LS W q s wd T w) (hv : v < 2 ^ wd) (hn : n ≤ wd) (hp : p = (bitsN wd v).take n) (hg : getT p T = none) (hN : (ents T).length ≤ 100000) :
    Calls Try.prog 17 #[.pointer (some ⟨q, 0, none⟩), .int .u32 v, .int .i64 n, .int .i64 x] w (RetK W q s wd p x T w) := by
  have pl : p.length = n := by rw [hp, List.length_take, bits_len]; omega
  have MD := Lib.hid (made_yes w q s h.qv)
  have c0 : w.cell? ⟨q, 0, none⟩ = some (.pointer (some ⟨s, 0, none⟩)) := h.qv.cell 0
  have PO := Lib.hid (pre_ok w s wd v n (h.sv.cell 0) h.w1 h.w2 hv hn)
  rw [← hp] at PO
  have HH := Lib.hid h
  have GR := Lib.hid (fun (W2 : World) (k : w.grownBy W2 none) => grow_any W W2 q s wd p T (h.keep0 k) (by omega))
  rw [pl] at GR
  unfold RetN at GR
  have HPL := Lib.hid (show p.length ≤ wd by omega)
  unfold RetK
  have HG := Lib.hid hg
  have NN := Lib.hid hN
  generalize E wd p = ep at *
  clear h hv hn hp hg pl hN
  go_enter Try.func17, Try.ntmps17
  go_wp2_with fail
  refine MD.out.mono ?_
  rintro e w1 ⟨rfl, rfl⟩
  go_wp2_with fail
  refine PO.out.mono ?_
  rintro e w2 ⟨rfl, g⟩
  have G2 := Lib.hid (gb_trans g (gb_alloc _ (.cells #[.int .u32 ep, .int .i64 n] 79) none))
  have B2 := Lib.hid (IsB.new w2 79 #[.int .u32 ep, .int .i64 n])
  clear g c0
  go_upto_region 7 with fail
  generalize w2.alloc (.cells #[.int .u32 ep, .int .i64 n] 79) = w3 at *
  obtain ⟨z, hz⟩ : ∃ x, x = w2.heap.size := ⟨_, rfl⟩
  rw [← hz] at B2 ⊢
  have b0 := B2.out.cell 0
  have b1 := B2.out.cell 1
  dsimp at b0 b1
  clear hz
  go_wp2_with fail
  refine (GR.out _ G2.out).mono ?_
  rintro e w4 ⟨a, f, rfl, ls, fx, ha, hf⟩
  have L4 := Lib.hid ls
  have FX := Lib.hid ((Fx.of G2.out).trans fx)
  clear ls fx b0 b1
  have GT := Lib.hid (show gst p (sub T (desc p T)) = false by rw [getT_gst, HG.out]; rfl)
  obtain ⟨c0, c1, y, c4, c5, hB⟩ := gblk_cell (a := a) (f := f) (p := p) (B := sub T (desc p T)) (by
    have e : ∀ (T N : Tr) (d : List Bool), inT T d → sub (put T d N) d = N := by
      intro T N d
      induction d generalizing T with
      | nil => intro _; cases T <;> (cases N <;> rfl)
      | cons c t ih =>
        intro hi
        cases T with
        | nil => exact absurd hi (by simp [inT])
        | node b q st x l r => cases c <;> simp [put, sub] <;> exact ih _ (by simpa [inT] using hi)
    have k := sub_tn _ (desc p T) L4.out.tn
    rwa [e T _ _ (desc_in p T)] at k)
  rw [GT.out] at hB
  have LF := Lib.hid (L4.out.stored (x := x) HH.out.ok HPL.out HG.out)
  have gin := gblk_in a f p (sub T (desc p T))
  have hE : (ents (put T (desc p T) (graft a f p (sub T (desc p T))))).length = (ents T).length := by
    obtain ⟨A2, B2, g1, g2⟩ := put_ents T (desc p T) (desc_in p T)
    rw [g2, g1, graft_ents]
  have gs : s ≠ gblk a p (sub T (desc p T)) := fun e => L4.out.sb (by
    obtain ⟨A, B, h1, h2⟩ := put_blks T (desc p T) (desc_in p T)
    rw [h2, e]; simp [gin])
  have gB : w1.heap.size ≤ gblk a p (sub T (desc p T)) ∨ Bs s T (gblk a p (sub T (desc p T))) := by
    have k : gblk a p (sub T (desc p T)) = a ∨ gblk a p (sub T (desc p T)) ∈ blks (sub T (desc p T)) := by
      cases sub T (desc p T) with
      | nil => exact .inl rfl
      | node b q st y l r => simp only [gblk]; split <;> simp [blks]
    rcases k with k | k
    · rw [k]; exact .inl (Nat.le_trans G2.out.size ha)
    · exact .inr (.inr (sub_blks T (desc p T) _ k))
  have f2 := hB.free 2
  have f3 := hB.free 3
  have c2 := hB.cell 2
  have c3 := hB.cell 3
  dsimp at c2 c3
  have SV := L4.out.sv
  rw [hE] at SV
  have s2 := SV.cell 2
  have sf := SV.free 2
  dsimp at s2
  have GB := Lib.hid gB
  have GS := Lib.hid gs
  have c0' := L4.out.qv.cell 0
  generalize gblk a p (sub T (desc p T)) = g at *
  obtain ⟨m, hm⟩ : ∃ m, m = (ents T).length := ⟨_, rfl⟩
  rw [← hm] at s2 NN LF
  have hw : IntKind.i64.wrap ((m : Int) + 1) = ((m + 1 : Nat) : Int) := by have := NN.out; rw [IntKind.wrap_i64]; omega
  clear hB gin hE gB SV hm ha hf
  have gs' : ¬ s = g := GS.out
  have gs2 : ¬ g = s := fun e => GS.out e.symm
  go_wp2
  go_ret
  refine ⟨a, f, rfl, ?_, ?_⟩
  · simpa using LF.out
  · have far : ∀ (A C : World) (i : Nat) (u : Value), Fx (Bs s T) A C → A = w1 → Fx (Bs s T) A (C.setCell ⟨g, i, none⟩ u) := fun A C i u k e => by
      rcases GB.out with q | q
      · subst e
        exact ⟨k.os, k.tape, k.output, by simpa [World.setCell] using k.size, fun x hx hn => (Below.heap_setCell C ⟨g, i, none⟩ u x (by show x ≠ g; omega)).trans (k.block x hx hn)⟩
      · exact k.trans (Fx.set q)
    exact (far _ _ 3 _ (far _ _ 2 _ FX.out rfl) rfl).trans (Fx.set (.inl rfl))
end Go.Proofs.Ytidjggaffioekaa
