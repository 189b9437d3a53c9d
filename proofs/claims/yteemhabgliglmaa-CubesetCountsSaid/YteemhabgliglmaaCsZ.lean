/- Cubeset: simplified. -/
import Derived.Test.YteemhabgliglmaaCsY
namespace Go.Proofs.Yteemhabgliglmaa
open Go.RowKit
set_option linter.unusedVariables false

theorem own_ft {w w2 : World} {base : Nat} {e : TypeId} {size n : Nat} {v : Value} {xs : List Value} (h : w.ownsRow base e size v n xs) (f : Ft w w2) (h1 : e ≠ 77) (h2 : e ≠ 33) : w2.ownsRow base e size v n xs := by
  refine ⟨h.1, ?_⟩
  rcases h.2 with hn | ⟨g, cap, cur, rfl, hb, hg, rest⟩
  · exact .inl hn
  · exact .inr ⟨g, cap, cur, rfl, hb, f g cur e hg h1 h2, rest⟩
theorem CV.set {W w : World} {g b : Nat} {V : Value} {M : List Nat} {S : List (Nat × Nat)} (h : CV W w g V b M S) {q : Nat} {t : TypeId} {cs : Array Value} (hq : IsB w q t cs) (h1 : t ≠ 77) (h2 : t ≠ 33) (hl : W.heap.size ≤ q) (i : Nat) (u : Value) : CV W (w.setCell ⟨q, i, none⟩ u) g V b M S :=
  ⟨h.var.set_far (IsB.ne h.var hq (Ne.symm h1)) i u, World.ownsRow.kept h.row (gb_set _ _ _ _) (.inr (own_ne h.row hq (Ne.symm h2))), h.map.keep (gb_set _ q _ _) (by intro e; injection e with e; exact mb_ne hq h.map e.symm), h.lowg, h.lowb, gb_put h.grown hl, h.mask, h.m64, h.len⟩
theorem wpList_lenM {w : World} {ops : Array Oper} {rest : List Oper} {o : Oper} {a : Act} {Q : Exit → Act → World → Prop} (hg : o.guard = none) (m : Operand) (hop : o.op = Op.call { callee := Callee.builtin Builtin.len, args := #[m], argTypes := #[75] })
    (b : Nat) (S : List (Nat × Nat)) (sl : Nat) (hsl : S.length = sl) (hm : a.eval m = .map (some b)) (h : MB w b S) (hK : wpList Try.prog ops Q rest (a.put o.dst (.int .i64 (sl : Int))) w) : wpList Try.prog ops Q (o :: rest) a w := by
  obtain ⟨D, n, h1, _, h2, _⟩ := h
  refine wpList_len_own w hg m 75 hop 49 4 Try.underlying75 _ b n D hm h1 ?_
  rw [h2, hsl]
  exact hK
theorem infoBool : (Try.prog.info? 4).map (fun i => (i.zero, i.size, i.bytes)) = some (some (.bool false), 1, 1) := by kernel_rfl
/-- What simplified returns: the simplified list, or nothing where it is too long. -/
def RetSi (L : List (Nat × Nat)) (mm : Nat) (w : World) (e : Ending) (w' : World) : Prop :=
  (((simpL L).length ≤ mm ∧ ∃ V, e = .returned (.tuple #[V, .bool true]) ∧ CLs w' w.heap.size V (simpL L)) ∨ (mm < (simpL L).length ∧ e = .returned (.tuple #[.slice none 0 0, .bool false]))) ∧ w.grownBy w' none
/-- What lies in memory between the steps of simplified. -/
structure SS (w : World) (C : List (Nat × Nat)) (b : Option Addr) (d n gs g bm p9 q : Nat) (ps cs : Array Value) (V : Value) (M : List Nat) (S : List (Nat × Nat)) (B : List Bool) (wr : World) : Prop where
  cubes : CLs wr w.heap.size (.slice b C.length d) C
  stays : wr.ownsRow w.heap.size 4 1 (.slice (some ⟨gs, 0, none⟩) n n) n (B.map Value.bool)
  cover : CV w wr g V bm M S
  pieces : IsB wr p9 79 ps
  places : IsB wr q 3 cs
theorem SS.keep0 {w : World} {C : List (Nat × Nat)} {b : Option Addr} {d n gs g bm p9 q : Nat} {ps cs : Array Value} {V : Value} {M : List Nat} {S : List (Nat × Nat)} {B : List Bool} {wr w2 : World} (h : SS w C b d n gs g bm p9 q ps cs V M S B wr) (k : wr.grownBy w2 none) : SS w C b d n gs g bm p9 q ps cs V M S B w2 :=
  ⟨h.cubes.keep0 k, own_keep0 h.stays k, h.cover.keep0 k, h.pieces.keep0 k, h.places.keep0 k⟩
theorem SS.added {w : World} {C : List (Nat × Nat)} {b : Option Addr} {d n gs g bm p9 q : Nat} {ps cs : Array Value} {V V2 : Value} {M M2 : List Nat} {S S2 : List (Nat × Nat)} {B : List Bool} {wr w2 : World} (h : SS w C b d n gs g bm p9 q ps cs V M S B wr) (k : Ft wr w2) (c : CV w w2 g V2 bm M2 S2) : SS w C b d n gs g bm p9 q ps cs V2 M2 S2 B w2 :=
  ⟨own_ft h.cubes k (by decide) (by decide), own_ft h.stays k (by decide) (by decide), c, k _ _ _ h.pieces (by decide) (by decide), k _ _ _ h.places (by decide) (by decide)⟩
theorem SS.mark {w : World} {C : List (Nat × Nat)} {b : Option Addr} {d n gs g bm p9 q : Nat} {ps cs : Array Value} {V : Value} {M : List Nat} {S : List (Nat × Nat)} {B : List Bool} {wr : World} (h : SS w C b d n gs g bm p9 q ps cs V M S B wr) (i : Nat) : SS w C b d n gs g bm p9 q ps cs V M S (B.set i true) (wr.setCell ⟨gs, i, none⟩ (.bool true)) := by
  obtain ⟨cb, hb⟩ := own_blk h.stays
  have hl := (World.ownsRow.lt h.stays gs rfl).1
  refine ⟨World.ownsRow.kept h.cubes (gb_set _ _ _ _) (.inr (own_ne h.cubes hb (by decide))), ?_, h.cover.set hb (by decide) (by decide) hl i _, h.pieces.set_far (IsB.ne h.pieces hb (by decide)) _ _, h.places.set_far (IsB.ne h.places hb (by decide)) _ _⟩
  rw [List.map_set]
  exact (World.ownsRow.stored h.stays i (.bool true)).1
theorem SS.sc {w : World} {C : List (Nat × Nat)} {b : Option Addr} {d n gs g bm p9 q : Nat} {ps cs : Array Value} {V : Value} {M : List Nat} {S : List (Nat × Nat)} {B : List Bool} {wr : World} (h : SS w C b d n gs g bm p9 q ps cs V M S B wr) (wf : Wf C) (hc : C.length = n) : SC wr b n d C := by
  have := sc_own h.cubes wf
  rwa [hc] at this
theorem PI_full (C : List (Nat × Nat)) (k j : Nat) (hj : j < C.length) : PI C k (plc C k C.length).length j = decide (k ≤ frN (C.getD j (0, 0))) := by
  unfold PI
  rw [List.take_length]
  have hm := (plc_mem C k C.length j)
  generalize frN (C.getD j (0, 0)) = f at *
  by_cases h : f = k
  · have := hm.2 ⟨hj, h⟩
    subst h
    simp [this]
  · simp [h]
    omega
theorem keepN_le (C : List (Nat × Nat)) (P : Nat → Bool) : (keepN C P).length ≤ C.length := by
  unfold keepN
  have := List.length_filter_le (fun i => P i && !redN C i) (List.range C.length)
  simpa using this
set_option maxRecDepth 100000 in
set_option maxHeartbeats 8000000 in
theorem simplified_any (w : World) (a : Option Addr) (n c : Nat) (L : List (Nat × Nat)) (h : SC w a n c L) (hn : n ≤ 100000) (mm : Nat) (hmm : mm ≤ 50000) : Calls Try.prog 39 #[.slice a n c, .int .i64 (mm : Int)] w (RetSi L mm w) := by
  have CA := Lib.hid (can_any w a n c L h (by omega))
  have LF := Lib.hid (resT_simp L h.wf)
  have LN := Lib.hid (simp_len L h.wf)
  have CN := Lib.hid (can_cn L)
  have WC := Lib.hid (can_wf L h.wf)
  have HC := Lib.hid (show (L.map canP).length = n by rw [List.length_map]; exact h.len)
  obtain ⟨i0, hi, hz0, hz1, hz2⟩ := info_parts infoBool
  have HI := Lib.hid hi
  clear h hi
  go_enter Try.func39, Try.ntmps39
  go_wp2_with fail
  refine CA.out.mono ?_
  rintro e w1 ⟨V, rfl, o1, g1⟩
  generalize L.map canP = C at *
  obtain ⟨b, d, rfl⟩ := o1.shape
  have O1 := Lib.hid o1
  have G1 := Lib.hid g1
  have WG := Lib.hid (show w.heap.size ≤ w1.heap.size from g1.size)
  clear o1 g1 CA
  rw [HC.out]
  go_wp2_with (at_make; refine wpList_make_full _ rfl _ _ 74 rfl w.heap.size 4 i0 (.bool false) 1 Try.underlying74 HI.out hz0 hz1 .i64 .i64 _ _ n rfl rfl ?c1 ?c2 ?c3 ?c4 ?c5 ?_)
  case c1 => first | rfl | omega
  case c2 => first | rfl | omega
  case c3 => first | (rw [hz2]; omega) | omega
  case c4 => unfold maxLen; omega
  case c5 => exact WG.out
  intro w2 hown hg2
  have e8 : (madeCells #[Value.bool false] (n * 1)).toList = (List.replicate n false).map Value.bool := by rw [Nat.mul_one, made_zero, List.map_replicate]
  have hown : w2.ownsRow w.heap.size 4 1 (.slice (some ⟨w1.heap.size, 0, none⟩) n n) n ((List.replicate n false).map Value.bool) := by rw [← e8, Nat.mul_one]; first | exact hown | (rw [Nat.mul_one] at hown; exact hown)
  have ST := Lib.hid hown
  have O2 := Lib.hid (O1.out.keep0 hg2)
  have G2 := Lib.hid (gb_trans G1.out hg2)
  clear hown hg2 e8
  have MM : ∀ (x : Int) (w : World), (Instr.makeMap 75 (some (.int .i64 x))).run Try.prog w = .ok (.map (some w.heap.size)) (w.alloc (.map #[] 0)) := by
    intro x w
    simp [Instr.makeMap, run_underlying Try.underlying75, asInt, asIntOf, Result.andThen]
    first | done | rfl
  go_wp2_with fail
  have X1 := gb_trans (gb_alloc w2 (.map #[] 0) none) (gb_alloc _ (.cells #[.slice none 0 0, .map (some w2.heap.size)] 77) none)
  have CV1 := IsB.new (w2.alloc (.map #[] 0)) 77 #[.slice none 0 0, .map (some w2.heap.size)]
  have e5 : (w2.alloc (.map #[] 0)).heap.size = w2.heap.size + 1 := by simp
  rw [e5] at CV1
  have MB1 := (MB.new w2).keep0 (gb_alloc _ (.cells #[.slice none 0 0, .map (some w2.heap.size)] 77) none)
  have O3 := O2.out.keep0 X1
  have ST3 := own_keep0 ST.out X1
  have G3 := gb_trans G2.out X1
  have WG2 : w.heap.size ≤ w2.heap.size := G2.out.size
  have CVI : CV w _ (w2.heap.size + 1) (.slice none 0 0) w2.heap.size [] [] := ⟨CV1, World.ownsRow_nil _ _ _ _, MB1, by omega, WG2, G3, fun p hp => (by cases hp), fun p hp => (by cases hp), Nat.le_refl _⟩
  have SC3 := sc_own O3 WC.out
  rw [HC.out] at SC3
  refine (bfb_any _ b n d C SC3 (by omega)).mono ?_
  rintro e w4 ⟨q, cs, ps, rfl, hps, hq, hql, hg4, hpc⟩
  have SS4 := Lib.hid (show SS w C b d n w1.heap.size (w2.heap.size + 1) w2.heap.size w4.heap.size q ps cs (.slice none 0 0) [] [] (List.replicate n false) (w4.alloc (.cells ps 79)) from
    ⟨(O3.keep0 hg4).keep0 (gb_alloc _ _ none), own_keep0 (own_keep0 ST3 hg4) (gb_alloc _ _ none), (CVI.keep0 hg4).keep0 (gb_alloc _ _ none), IsB.new _ _ _, hq.keep0 (gb_alloc _ _ none)⟩)
  have B9 := Lib.hid (IsB.new w4 79 Try.zeroCells79)
  have HPC := Lib.hid hpc
  have ONE := Lib.hid (show ps.all (·.oneCell') = true by
    rw [Array.all_eq_true]
    intro k hk
    obtain ⟨o, c', h1, _⟩ := hpc k (by omega)
    rw [Array.getElem?_eq_getElem hk] at h1
    injection h1 with h1
    rw [h1]; rfl)
  have I1 := Lib.hid (show (Try.prog.info? 79).map (·.size) = some ps.size by rw [hps]; exact info65s)
  have SE := Lib.hid (show (Try.zeroCells79).size = ps.size by rw [hps]; rfl)
  have SI0 := Lib.hid (show SI C (fun j => decide (65 ≤ frN (C.getD j (0, 0)))) [] (List.replicate n false) by
    rw [← HC.out]
    refine (SI.start C).congr (fun i _ => ?_)
    have := frN_le (C.getD i (0, 0))
    rw [decide_eq_false (by omega)])
  clear X1 CV1 e5 MB1 O3 ST3 G3 CVI SC3 hps hq hql hg4 hpc MM
  go_wp2_with (refine wpList_store_row rfl 79 _ _ rfl w4.heap.size ps rfl rfl 79 Try.zeroCells79 B9.out I1.out SE.out ONE.out ?_)
  rw [World.setRow_alloc_new]
  have SS5 := SS4.out
  clear SS4 B9 ONE I1 SE ST O1 O2 G1 G2 WG WG2 HI hz0 hz1 hz2
  generalize w4.alloc (.cells ps 79) = w5 at *
  generalize w1.heap.size = gs at *
  generalize w2.heap.size = bm at *
  generalize w4.heap.size = p9 at *
  have SS4 := Lib.hid SS5
  clear SS5
  go_loopw [10] (fun s10 wr => ∃ (kk : Nat) (V : Value) (M : List Nat) (S : List (Nat × Nat)) (B : List Bool), kk ≤ 65 ∧ S.length ≤ mm ∧ s10 = .int .i64 ((kk : Int) - 1) ∧ SI C (fun j => decide (kk ≤ frN (C.getD j (0, 0)))) S B ∧ SS w C b d n gs (bm + 1) bm p9 q ps cs V M S B wr) (fun s10 _ => (intOf s10 + 1).toNat)
  case atStart => exact ⟨65, _, _, _, _, Nat.le_refl _, Nat.zero_le _, rfl, SI0.out, SS4.out⟩
  case round =>
    obtain ⟨kk, V, M, S, B, hkk, hsm, rfl, hsi, hss⟩ := hrel
    have HSI := Lib.hid hsi
    have HSS := Lib.hid hss
    clear hsi hss SI0 SS4
    by_cases hk0 : kk = 0
    · subst hk0
      have SI2 := Lib.hid (show SI C (fun _ => true) S B from HSI.out.congr (fun j _ => by rw [decide_eq_true (Nat.zero_le _)]))
      have SL := Lib.hid (show S.length = (simpL L).length by rw [LN.out]; exact SI2.out.len)
      have LE := Lib.hid (show (simpL L).length ≤ mm by rw [← SL.out]; exact hsm)
      have SN : (simpL L).length ≤ n := by rw [LN.out]; have := keepN_le C (fun _ => true); rw [HC.out] at this; exact this
      have c7 := (HSS.out.cover.var).cell 1
      simp at c7
      have MB3 := Lib.hid HSS.out.cover.map
      obtain ⟨i2, hi2, hy0, hy1, hy2⟩ := info_parts infoCube
      have HI2 := Lib.hid hi2
      rw [show (((0 : Nat) : Int) - 1) = -1 from rfl]
      have SLB := Lib.hid SL.out
      generalize hsl : (simpL L).length = sl at *
      clear hi2 hsm SI2
      go_wp2_with (first | (refine wpList_lenM rfl _ rfl bm S sl SLB.out rfl MB3.out ?_) | (at_make; refine wpList_make_own _ rfl _ _ 22 rfl wr.heap.size 49 i2 (.agg #[.int .u64 0, .int .u64 0]) 2 Try.underlying22 HI2.out hy0 hy1 .i64 .i64 _ sl rfl rfl rfl (by rw [hy2]; omega) (by unfold maxLen; omega) (Nat.le_refl _) ?_; intro w7 hown hg7))
      have O7 := Lib.hid (show CLs w7 wr.heap.size (.slice (some ⟨wr.heap.size, 0, none⟩) 0 sl) [] from hown)
      have G7 := Lib.hid hg7
      clear hown hg7 c7 MB3 hy0 hy1 hy2
      generalize (Value.slice (some ⟨wr.heap.size, 0, none⟩) 0 sl) = V0 at *
      generalize wr = wo at *
      have WR := Lib.hid HSS.out.cover.grown
      go_loopw [13, 14, 66] (fun s13 s14 s66 wx => ∃ (j : Nat) (R : List (Nat × Nat)), j ≤ n ∧ s66 = .int .i64 j ∧ R = resT C j ∧ CLs wx wo.heap.size s13 R ∧ wo.grownBy wx none) (fun _ _ s66 _ => n - (intOf s66).toNat)
      case atStart => exact ⟨0, [], Nat.zero_le _, rfl, rfl, O7.out, G7.out⟩
      case round =>
        obtain ⟨j, R, hj, rfl, hR, hO, hG⟩ := hrel
        obtain ⟨ra, rc, rfl⟩ := hO.shape
        have hrl : R.length ≤ 100000 := by rw [hR]; have := resT_len C j; omega
        have HO := Lib.hid hO
        have HG := Lib.hid hG
        have HRR := Lib.hid hR
        clear hO hG hR
        by_cases hlt : j < n
        · have SCC := Lib.hid ((HSS.out.keep0 HG.out).sc WC.out HC.out)
          obtain ⟨ad, rfl⟩ := SCC.out.some (by omega)
          obtain ⟨d0, d1⟩ := SCC.out.cells ad rfl j hlt
          have SU := Lib.hid (resT_succ C j)
          obtain ⟨pq, hpq⟩ : ∃ pq, pq = C.getD j (0, 0) := ⟨_, rfl⟩
          rw [← hpq] at d0 d1 SU
          obtain ⟨v, m⟩ := pq
          have hb : j < B.length := by rw [HSI.out.bl, HC.out]; exact hlt
          have bt := HSI.out.bit j (by rw [HC.out]; exact hlt)
          rw [decide_eq_true (Nat.zero_le _), Bool.true_and] at bt
          have BA := Lib.hid (fun (w3 : World) (g : wo.grownBy w3 none) => (own_slr (HSS.out.keep0 g).stays).2.2 _ rfl j (.bool (B.getD j false)) (by
            rw [List.getElem?_map, List.getElem?_eq_getElem hb, List.getD_eq_getElem?_getD, List.getElem?_eq_getElem hb]; rfl))
          rw [bt] at BA
          have GA := Lib.hid (gb_trans HG.out (gb_alloc wr (.cells #[.int .u64 (v : Int), .int .u64 (m : Int)] 49) none))
          have cb := BA.out _ GA.out
          rw [addr0] at cb
          have i1 : (j : Int) < n := by omega
          have i0 : (0 : Int) ≤ (j : Int) := by omega
          clear hpq hb bt
          cases hr : redN C j
          · rw [hr] at cb SU
            have S2 := Lib.hid (show resT C (j + 1) = R ++ [(v, m)] by rw [SU.out, HRR.out]; rfl)
            have O3 := Lib.hid (HO.out.keep0 (gb_trans (gb_alloc wr (.cells #[.int .u64 (v : Int), .int .u64 (m : Int)] 49) none) (gb_alloc _ (.cells #[.int .u64 (v : Int), .int .u64 (m : Int)] 49) none)))
            have GB := Lib.hid (gb_trans GA.out (gb_alloc _ (.cells #[.int .u64 (v : Int), .int .u64 (m : Int)] 49) none))
            have cb2 : (wr.alloc (.cells #[.int .u64 (v : Int), .int .u64 (m : Int)] 49)).cell? ⟨gs, j, none⟩ = some (.bool true) := cb
            clear SU hr cb
            go_wp2_with (at_builtin; refine pushCube rfl _ _ rfl wo.heap.size _ R rfl O3.out _ _ (v, m) rfl (two_cell _ _ _ _ _ (isb_two _ _ _ _) rfl) (by omega) GB.out.size ?_)
            intro V9 w9 o9 g9
            have O9 := Lib.hid o9
            have G9 := Lib.hid (gb_own GB.out O3.out (Nat.le_refl _) g9)
            clear o9 g9
            go_wp2
            go_roundw
            case rel => exact ⟨j + 1, _, by omega, by go_num, S2.out.symm, O9.out, G9.out⟩
            case measure => simp [intOf]; omega
          · rw [hr] at cb SU
            have S2 := Lib.hid (show resT C (j + 1) = R by rw [SU.out, HRR.out]; rfl)
            have cb2 : (wr.alloc (.cells #[.int .u64 (v : Int), .int .u64 (m : Int)] 49)).cell? ⟨gs, j, none⟩ = some (.bool false) := cb
            clear SU hr cb
            go_wp2
            go_roundw
            case rel => exact ⟨j + 1, _, by omega, by go_num, S2.out.symm, HO.out.keep0 (gb_alloc _ _ _), GA.out⟩
            case measure => simp [intOf]; omega
        · have hje : j = n := by omega
          have R2 := Lib.hid (show R = simpL L by rw [LF.out, HC.out, ← hje]; exact HRR.out)
          subst hje
          go_wp2
          go_ret2
          exact ⟨.inl ⟨by rw [hsl]; exact LE.out, _, rfl, by rw [← R2.out]; exact own_low HO.out WR.out.size⟩, gb_trans WR.out HG.out⟩
    · obtain ⟨k, rfl⟩ : ∃ k, kk = k + 1 := ⟨kk - 1, by omega⟩
      obtain ⟨o, cc, hp, hpl⟩ := HPC.out k (by omega)
      have HPL := Lib.hid hpl
      rw [HC.out] at hp
      have c9 := HSS.out.pieces.cell k
      rw [hp] at c9
      have k1 : (k : Int) < 65 := by omega
      have k0 : (0 : Int) ≤ (k : Int) := by omega
      have SI1 := Lib.hid (show SI C (PI C k 0) S B from HSI.out.congr (fun j hj => by
        unfold PI
        rw [List.take_zero, Bool.eq_iff_iff, decide_eq_true_eq, Bool.or_eq_true, Bool.and_eq_true, decide_eq_true_eq, decide_eq_true_eq, decide_eq_true_eq]
        constructor
        · intro h; exact .inl h
        · rintro (h | ⟨_, h⟩)
          · exact h
          · cases h))
      rw [show (((k + 1 : Nat) : Int) - 1) = (k : Int) by omega]
      have e7 : ((plc C k C.length).length) = (plc C k n).length := by rw [HC.out]
      have lnb := plc_le C k n
      generalize hln : (plc C k n).length = ln at *
      have EL := Lib.hid e7
      clear hp hpl HSI e7 hk0
      go_wp2
      go_loopw [12, 37] (fun s12 s37 wx => ∃ (u : Nat) (V : Value) (M : List Nat) (S : List (Nat × Nat)) (B : List Bool), u ≤ ln ∧ S.length ≤ mm ∧ s37 = .int .i64 u ∧ SI C (PI C k u) S B ∧ SS w C b d n gs (bm + 1) bm p9 q ps cs V M S B wx) (fun _ s37 _ => ln - (intOf s37).toNat)
      case atStart => exact ⟨0, _, _, _, _, Nat.zero_le _, hsm, rfl, SI1.out, HSS.out⟩
      case round =>
        obtain ⟨u, V, M, S, B, hu, hsm, rfl, hsi, hss⟩ := hrel
        have HSI := Lib.hid hsi
        have HSS := Lib.hid hss
        clear hsi hss
        by_cases hlt : u < ln
        · have hu2 : u < (plc C k C.length).length := by rw [EL.out]; exact hlt
          have hm2 : (plc C k C.length).getD u 0 ∈ plc C k C.length := by rw [List.getD_eq_getElem?_getD, List.getElem?_eq_getElem hu2]; exact List.getElem_mem _
          have hi := ((plc_mem _ _ _ _).1 hm2).1
          have PN := PI_not C k u hu2
          have PB := fun j hj => PI_bef C k u j hu2 hj
          have PS := Lib.hid (fun j => PI_step C k u j hu2)
          have c0 := HSS.out.places.cell (o + u)
          rw [HPL.out u hu2] at c0
          have RI := red_incl C WC.out CN.out (PI C k u) S B M HSI.out HSS.out.cover.mask _ hi PB
          generalize (plc C k C.length).getD u 0 = i at *
          have SCC := Lib.hid (HSS.out.sc WC.out HC.out)
          have hin : i < n := by rw [← HC.out]; exact hi
          obtain ⟨ad, rfl⟩ := SCC.out.some (by omega)
          obtain ⟨d0, d1⟩ := SCC.out.cells ad rfl i hin
          obtain ⟨b0, b1⟩ := SCC.out.wfAt i hin
          have SLE : S.length ≤ 50000 := by omega
          have NEW := Lib.hid (fun hr => HSI.out.fresh WC.out i hi PN hr)
          have KEEP := Lib.hid (fun hr => HSI.out.add i hi PN hr)
          have SKIP := Lib.hid (fun hr => HSI.out.skip i PN hr)
          have INC := Lib.hid (inc_any w wr (bm + 1) bm V M S HSS.out.cover (by have := HSS.out.cover.len; omega) (C.getD i (0, 0)).1 (C.getD i (0, 0)).2 b0 b1)
          rw [RI] at INC
          unfold RetV at INC
          have ADD := Lib.hid (fun w3 (g3 : wr.grownBy w3 none) hr => add_any w w3 (bm + 1) bm V M S (HSS.out.keep0 g3).cover SLE (C.getD i (0, 0)).1 (C.getD i (0, 0)).2 b0 b1 (NEW.out hr))
          have CI := Lib.hid (fun (w3 : World) (g : wr.grownBy w3 none) => (SCC.out.keep0 g).cells ad rfl i hin)
          generalize C.getD i (0, 0) = pq at *
          obtain ⟨v, m⟩ := pq
          have i1 : (i : Int) < n := by omega
          have i0 : (0 : Int) ≤ (i : Int) := by omega
          have ou : (u : Int) < ln := by omega
          have o0 : (0 : Int) ≤ (u : Int) := by omega
          clear RI PN PB hm2 hu2 b0 b1 c9
          cases hr : redN C i
          · rw [hr] at INC
            have hK := Lib.hid (KEEP.out hr)
            have hA := Lib.hid (fun w3 g3 => ADD.out w3 g3 hr)
            clear KEEP ADD SKIP NEW hr
            go_wp2_with fail
            refine INC.out.mono ?_
            rintro e w3 ⟨rfl, g3⟩
            have G3 := Lib.hid g3
            have c7 := ((HSS.out.keep0 g3).cover.var).cell 1
            simp at c7
            obtain ⟨e0, e1⟩ := CI.out w3 g3
            have MB3 := Lib.hid (HSS.out.keep0 g3).cover.map
            clear g3 c0 d0 d1
            obtain ⟨sl, hsl⟩ : ∃ sl, S.length = sl := ⟨_, rfl⟩
            by_cases hsm2 : sl = mm
            · subst hsm2
              have LT := Lib.hid (show sl < (simpL L).length by
                have h1 := hK.out.len
                have h2 := keepN_mono C (fun j => PI C k u j || j == i) (fun _ => true) (fun _ _ => rfl)
                rw [LN.out]
                rw [List.length_append, hsl] at h1
                simp at h1
                omega)
              go_wp2_with (refine wpList_lenM rfl _ rfl bm S sl hsl rfl MB3.out ?_)
              go_ret2
              exact ⟨.inr ⟨LT.out, rfl⟩, (HSS.out.keep0 G3.out).cover.grown⟩
            · have n1 : ((sl : Int) == (mm : Int)) = false := by rw [beq_eq_false_iff_ne]; omega
              have n2 : ¬ (sl : Int) = mm := by omega
              have n3 := Lib.hid (show (S ++ [(v, m)]).length ≤ mm by rw [List.length_append]; simp; omega)
              go_wp2_with (refine wpList_lenM rfl _ rfl bm S sl hsl rfl MB3.out ?_)
              refine (hA.out w3 G3.out).mono ?_
              rintro e w5 ⟨rfl, V5, M5, cv5, f5⟩
              have S5 := Lib.hid ((HSS.out.keep0 G3.out).added f5 cv5)
              have fz := World.ownsRow.frozenAt S5.out.stays i
              have cz := (own_slr S5.out.stays).2.2 _ rfl i (.bool (B.getD i false)) (by
                have hb : i < B.length := by rw [HSI.out.bl, HC.out]; exact hin
                rw [List.getElem?_map, List.getElem?_eq_getElem hb, List.getD_eq_getElem?_getD, List.getElem?_eq_getElem hb]; rfl)
              rw [addr0] at cz
              clear cv5 f5 c7 e0 e1
              go_wp2
              go_roundw
              case rel => exact ⟨u + 1, _, _, _, _, by omega, n3.out, by go_num, hK.out.congr (fun j _ => (PS.out j).symm), S5.out.mark i⟩
              case measure => simp [intOf]; omega
          · rw [hr] at INC
            have hK := Lib.hid (SKIP.out hr)
            clear KEEP ADD SKIP NEW hr
            go_wp2_with fail
            refine INC.out.mono ?_
            rintro e w3 ⟨rfl, g3⟩
            have G3 := Lib.hid g3
            clear g3 c0 d0 d1
            go_wp2
            go_roundw
            case rel => exact ⟨u + 1, _, _, _, _, by omega, hsm, by go_num, hK.out.congr (fun j _ => (PS.out j).symm), HSS.out.keep0 G3.out⟩
            case measure => simp [intOf]; omega
        · have hue : u = ln := by omega
          subst hue
          have SI2 := Lib.hid (show SI C (fun j => decide (k ≤ frN (C.getD j (0, 0)))) S B from HSI.out.congr (fun j hj => by rw [← EL.out]; exact PI_full C k j hj))
          go_wp2
          go_roundw
          case rel => exact ⟨k, _, _, _, _, by omega, hsm, by go_num, SI2.out, HSS.out⟩
          case measure => simp [intOf] <;> omega
end Go.Proofs.Yteemhabgliglmaa
