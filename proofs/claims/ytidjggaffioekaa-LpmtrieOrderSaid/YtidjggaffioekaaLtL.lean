/- Tries: All's iterator. -/
import Derived.Test.YtidjggaffioekaaLtK
import Derived.Sort.CutIn
namespace Go.Proofs.Ytidjggaffioekaa
open Go.RowKit Go.Shelf
set_option linter.unusedVariables false
attribute [local go_sem] Oper.semAt_some

abbrev Nd := Nat × List Bool × Bool × Int
def nds : Tr → List Nd
  | .nil => []
  | .node b p st x l r => (b, p, st, x) :: (nds l ++ nds r)
def sto (L : List Nd) : List Ent := L.flatMap fun n => if n.2.2.1 then [(n.2.1, n.2.2.2)] else []
theorem nds_blks (T : Tr) : (nds T).map (·.1) = blks T := by
  induction T with
  | nil => rfl
  | node b p st x l r il ir => simp [nds, blks, il, ir]
theorem nds_sto (T : Tr) : sto (nds T) = ents T := by
  induction T with
  | nil => rfl
  | node b p st x l r il ir => simp only [sto] at il ir ⊢; simp [nds, ents, List.flatMap_cons, List.flatMap_append, il, ir]
theorem nds_cells {w : World} {wi : Nat} {T : Tr} (h : TN w wi T) {n : Nd} (hn : n ∈ nds T) : ∃ u v, IsB w n.1 82 #[.int .u32 (E wi n.2.1), .int .i64 n.2.1.length, .bool n.2.2.1, .int .i64 n.2.2.2, u, v] := by
  induction T with
  | nil => simp [nds] at hn
  | node b p st x l r il ir =>
    simp only [nds, List.mem_cons, List.mem_append] at hn
    rcases hn with rfl | hn | hn
    · exact ⟨_, _, h.1⟩
    · exact il h.2.1 hn
    · exact ir h.2.2 hn
theorem nds_len {wi : Nat} {q : List Bool} {T : Tr} (h : Ok wi q T) {n : Nd} (hn : n ∈ nds T) : n.2.1.length ≤ wi := by
  induction T generalizing q with
  | nil => simp [nds] at hn
  | node b p st x l r il ir =>
    simp only [nds, List.mem_cons, List.mem_append] at hn
    rcases hn with rfl | hn | hn
    · exact h.2.1
    · exact il h.2.2.1 hn
    · exact ir h.2.2.2 hn
theorem sto_step (L : List Nd) (i : Nat) (h : i < L.length) : sto (L.take (i + 1)) = sto (L.take i) ++ (if (L[i]).2.2.1 then [((L[i]).2.1, (L[i]).2.2.2)] else []) := by
  rw [List.take_succ_eq_append_getElem h]
  unfold sto
  rw [List.flatMap_append]
  simp
theorem sto_pre (L : List Nd) (i : Nat) : sto (L.take i) <+: sto L := by
  have e : sto L = sto (L.take i) ++ sto (L.drop i) := by
    conv => lhs; rw [← List.take_append_drop i L]
    unfold sto
    rw [List.flatMap_append]
  rw [e]; exact List.prefix_append _ _
/-- How an entry is handed to a round. -/
def enE (wi : Nat) (e : Ent) : Array Value := #[.agg #[.int .u32 (E wi e.1), .int .u32 ((maskN e.1.length wi : Nat) : Int)], .int .i64 e.2]
theorem calls_round {F : Fence} {n : Nat} {P : Program} {f : FuncId} {args : Array Value} {w : World} {R : Ending → World → Prop} (l : Nat) (h : CallsIn F n P f args w R) : CallsIn (F.inRound l) n P f args w R := h
/-- What holds of the trie while it is gone through. -/
structure AllI (w : World) (z s wi : Nat) (l : Nat) (V2 : Value) (T : Tr) : Prop where
  y : IsB w z 91 #[.func (.yield l) #[] #[]]
  b : IsB w (z + 1) 59 #[.pointer (some ⟨s, 0, none⟩)]
  s : IsB w s 66 #[.int .i64 wi, ptr T, V2]
  tn : TN w wi T
theorem AllI.kt {own : Nat → Obj → Prop} {w w2 : World} {z s wi l : Nat} {V2 : Value} {T : Tr} (h : AllI w z s wi l V2 T) (k : Kt own w w2) (h1 : ∀ g cs, ¬ own g (.cells cs 91 (0, 0))) (h2 : ∀ g cs, ¬ own g (.cells cs 59 (0, 0)))
    (h3 : ∀ g cs, ¬ own g (.cells cs 66 (0, 0))) (h4 : ∀ g cs, ¬ own g (.cells cs 82 (0, 0))) : AllI w2 z s wi l V2 T :=
  ⟨k.isb h.y (h1 _ _), k.isb h.b (h2 _ _), k.isb h.s (h3 _ _), k.tn h.tn h4⟩
theorem AllI.keep0 {w w2 : World} {z s wi l : Nat} {V2 : Value} {T : Tr} (h : AllI w z s wi l V2 T) (k : w.grownBy w2 none) : AllI w2 z s wi l V2 T := ⟨h.y.keep0 k, h.b.keep0 k, h.s.keep0 k, h.tn.keep0 k⟩
theorem TQ_no {n b : Nat} {t : TypeId} {cs : Array Value} (h : KI TQ n b (.cells cs t (0, 0))) (hn : t ≠ 64) : False := hn h.2
set_option maxRecDepth 100000 in
set_option maxHeartbeats 4000000 in
theorem all_seq (n : Nat) (hn1 : 1 ≤ n) (TC : TypeId → Prop) (hT1 : ¬ TC 82) (hT2 : ¬ TC 64) (hT3 : ¬ TC 91) (hT4 : ¬ TC 59) (hT5 : ¬ TC 66) (hT6 : ¬ TC 45) (W0 W : World) (q s wi B : Nat) (T : Tr) (hB : IsB W B 24 #[.pointer (some ⟨q, 0, none⟩)]) (hP : LS W0 q s wi T W) (hn : (blks T).length ≤ 10000) :
    SeqX Fence.wide n Try.prog 38 #[.pointer (some ⟨B, 0, none⟩)] (enE wi) TC TQ (ents T) W := by
  intro l J Jx hJ hJx hY h0
  have HJ := Lib.hid hJ
  have HJx := Lib.hid hJx
  have HY := Lib.hid hY
  have H0 := Lib.hid h0
  have HB := Lib.hid hB
  have HP := Lib.hid hP
  have HN := Lib.hid hn
  have HT1 := Lib.hid hT1
  have HT2 := Lib.hid hT2
  have HT3 := Lib.hid hT3
  have HT4 := Lib.hid hT4
  have HT5 := Lib.hid hT5
  have HT6 := Lib.hid hT6
  have NL := Lib.hid (fun (nd : Nd) (h : nd ∈ nds T) => nds_len hP.ok h)
  have WI := Lib.hid (⟨hP.w1, hP.w2⟩ : 1 ≤ wi ∧ wi ≤ 32)
  obtain ⟨Z, hZ⟩ : ∃ Z, Z = ents T := ⟨_, rfl⟩
  rw [← hZ] at HY ⊢
  have HZ := Lib.hid (hZ.trans (nds_sto T).symm)
  have G1 := Lib.hid (gb_alloc W (.cells #[.func (.yield l) #[] #[]] 91) none)
  have Y1 := Lib.hid (IsB.new W 91 #[.func (.yield l) #[] #[]])
  have Q1 := Lib.hid (HP.out.keep0 G1.out)
  have b1 : (W.alloc (.cells #[.func (.yield l) #[] #[]] 91)).cell? ⟨B, 0, none⟩ = some (.pointer (some ⟨q, 0, none⟩)) := (HB.out.keep0 G1.out).cell 0
  have q1 : (W.alloc (.cells #[.func (.yield l) #[] #[]] 91)).cell? ⟨q, 0, none⟩ = some (.pointer (some ⟨s, 0, none⟩)) := Q1.out.qv.cell 0
  have MD := Lib.hid (made_yes _ q s Q1.out.qv)
  clear hJ hJx hY h0 hB hP hn hT1 hT2 hT3 hT4 hT5 hT6 hZ
  show CallsIn _ _ _ _ #[.func (.yield l) #[] #[], .pointer (some ⟨B, 0, none⟩)] _ _
  refine callsIn_of_wp_marks Try.func38 rfl trivial ?_ rfl
  simp only [Try.ntmps38, List.size_toArray, List.length_cons, List.length_nil, Nat.reduceAdd, Nat.reduceSub, Array.replicate_succ, Array.replicate_zero, List.push_toArray, List.append_toArray, List.nil_append, List.cons_append]
  gi_wp2_with (first
    | ((first | refine ⟨trivial, wd _, ?_⟩ | refine ⟨trivial, ?_⟩); gi_at_call 28; refine (callsIn_wide.2 MD.out).mono ?_; clear MD; rintro e w4 ⟨rfl, rfl⟩)
    | ((first | refine ⟨trivial, wd _, ?_⟩ | refine ⟨trivial, ?_⟩); gi_at_call 39; refine (callsIn_wide.2 (order_any _ _)).mono ?_; rintro e w4 ⟨rfl, rfl⟩))
  obtain ⟨w, hw⟩ : ∃ w, w = ((W.alloc (.cells #[.func (.yield l) #[] #[]] 91)).alloc (.cells #[.pointer (some ⟨s, 0, none⟩)] 59)).alloc (.cells #[.pointer (some ⟨s, 0, none⟩)] 59) := ⟨_, rfl⟩
  have g2 : (W.alloc (.cells #[.func (.yield l) #[] #[]] 91)).grownBy w none := by rw [hw]; exact gb_trans (gb_alloc _ _ none) (gb_alloc _ _ none)
  have B2 := Lib.hid (show IsB w (W.heap.size + 1) 59 #[.pointer (some ⟨s, 0, none⟩)] by
    rw [hw]
    have k := IsB.new (W.alloc (.cells #[.func (.yield l) #[] #[]] 91)) 59 #[.pointer (some ⟨s, 0, none⟩)]
    rw [sz_al] at k
    exact k.alloc _)
  have B3 := Lib.hid (show IsB w (W.heap.size + 1 + 1) 59 #[.pointer (some ⟨s, 0, none⟩)] by
    rw [hw]
    have k := IsB.new ((W.alloc (.cells #[.func (.yield l) #[] #[]] 91)).alloc (.cells #[.pointer (some ⟨s, 0, none⟩)] 59)) 59 #[.pointer (some ⟨s, 0, none⟩)]
    rw [sz_al, sz_al] at k
    exact k)
  have SZ := Lib.hid (show W.heap.size ≤ w.heap.size from (gb_trans G1.out g2).size)
  have J2 := Lib.hid (HJ.out _ _ _ H0.out (Kt.of_gb (gb_trans G1.out g2)))
  have A2 := Lib.hid (show AllI w W.heap.size s wi l (.int .i64 (ents T).length) T from ⟨Y1.out.keep0 g2, B2.out, Q1.out.sv.keep0 g2, Q1.out.tn.keep0 g2⟩)
  obtain ⟨z, hz⟩ : ∃ z, z = W.heap.size := ⟨_, rfl⟩
  rw [← hz] at HJ HJx HY B2 B3 SZ A2
  have mI := Lib.hid (fun (A C : World) (k : Kt (KI TQ w.heap.size) A C) => (k.mono (KI.mono SZ.out fun _ => id) : Kt (KI TQ z) A C))
  clear G1 Y1 Q1 b1 q1 H0 HB HP g2
  rw [← hw, ← hz]
  clear hw hz
  refine wpIn_rangeX rfl hn1 (gf := 46) (lb := #[.pointer (some ⟨z + 1 + 1, 0, none⟩)]) rfl trivial (enters_of Try.func46 (by kernel_rfl) rfl) (encs := enN) (TC := TC) (TI := TQ) (xs := blks T)
    (fun W2 gW hsz => ord_seq (n - 1) TC HT1.out HT2.out W2 (z + 1 + 1) s wi _ T (B3.out.keep0 gW) (A2.out.keep0 gW).s (A2.out.keep0 gW).tn HN.out) (fun _ => rfl)
    (fun pre w5 => J (sto ((nds T).take pre.length)) w5 ∧ AllI w5 z s wi l (.int .i64 (ents T).length) T)
    (fun c pre w5 => c = .ret ∧ ∃ p, p <+: Z ∧ Jx p w5)
    (fun t A C h k => ⟨HJ.out _ _ _ h.1 (mI.out _ _ k), h.2.kt k (fun _ _ q => TQ_no q (by decide)) (fun _ _ q => TQ_no q (by decide)) (fun _ _ q => TQ_no q (by decide)) (fun _ _ q => TQ_no q (by decide))⟩)
    (fun c t A C h k => by obtain ⟨e, p, hp, j⟩ := h; exact ⟨e, p, hp, HJx.out _ _ _ j (mI.out _ _ k)⟩) ⟨J2.out, A2.out⟩ ?round ?done ?stop
  case round =>
    rintro l2 pre x W5 hp ⟨j5, a5⟩
    have J5 := Lib.hid j5
    have A5 := Lib.hid a5
    obtain ⟨i, hi⟩ : ∃ i, i = pre.length := ⟨_, rfl⟩
    have HI := Lib.hid hi
    have hil : i < (nds T).length := by
      have k := hp.length_le
      rw [← nds_blks, List.length_map] at k
      simp at k; omega
    have hx : ((nds T)[i]).1 = x := by
      obtain ⟨r, hr⟩ := hp
      have k : (blks T)[i]? = some x := by rw [← hr, hi]; simp
      rw [← nds_blks, List.getElem?_map, List.getElem?_eq_getElem hil] at k
      simpa using k
    have ST := sto_step (nds T) i hil
    have SP := sto_pre (nds T) (i + 1)
    have NM := List.getElem_mem hil
    obtain ⟨⟨x', p, st, xv⟩, hnd⟩ : ∃ nd, nd = (nds T)[i] := ⟨_, rfl⟩
    rw [← hnd] at hx ST NM
    obtain rfl : x' = x := hx
    have PL := Lib.hid (NL.out _ NM)
    have NM2 := Lib.hid NM
    have ST2 := Lib.hid ST
    have SP2 := Lib.hid SP
    rw [← hi] at J5
    clear hp j5 a5 hi hil ST SP NM hnd
    dsimp only [enN]
    gi_wp2
    refine ⟨gb_refl _ _, fun W6 k6 kk6 => ?_⟩
    have J6 := Lib.hid (HJ.out _ _ _ J5.out (mI.out _ _ kk6))
    have A6 := Lib.hid (A5.out.kt kk6 (fun _ _ q => TQ_no q (by decide)) (fun _ _ q => TQ_no q (by decide)) (fun _ _ q => TQ_no q (by decide)) (fun _ _ q => TQ_no q (by decide)))
    obtain ⟨u, v, hnb⟩ := nds_cells A6.out.tn NM2.out
    have NB := Lib.hid hnb
    clear k6 kk6 hnb
    have EP := Lib.hid (show ∃ ep, ep = E wi p from ⟨_, rfl⟩)
    obtain ⟨pl, hpl⟩ : ∃ pl, pl = p.length := ⟨_, rfl⟩
    have PM := Lib.hid (fun W7 => (pmask_any p.length wi W7).mono fun _ _ k => (⟨k.1, gb_gr k.2 none⟩ : RetV _ W7 _ _))
    unfold RetV at PM
    rw [pm_nat p.length wi PL.out WI.out.1 WI.out.2] at PM
    dsimp only at NB
    obtain ⟨ep, hep⟩ : ∃ ep, ep = E wi p := ⟨_, rfl⟩
    obtain ⟨mk, hmk⟩ : ∃ mk, mk = ((maskN p.length wi : Nat) : Int) := ⟨_, rfl⟩
    rw [← hmk] at PM
    rw [← hpl] at NB PM
    rw [← hep] at NB
    have HEP := Lib.hid hep
    have HMK := Lib.hid hmk
    clear hep hmk hpl EP
    have SC := Lib.hid (fun (w' : World) (q0 : W6.grownBy w' none) => (⟨(NB.out.keep0 q0).cell 0, (NB.out.keep0 q0).cell 1, (A6.out.b.keep0 q0).cell 0, (A6.out.s.keep0 q0).cell 0⟩ : (fun w' : World => w'.cell? ⟨x', 0, none⟩ = some (.int .u32 ep) ∧ w'.cell? ⟨x', 1, none⟩ = some (.int .i64 pl) ∧ w'.cell? ⟨z + 1, 0, none⟩ = some (.pointer (some ⟨s, 0, none⟩)) ∧ w'.cell? ⟨s, 0, none⟩ = some (.int .i64 wi)) w'))
    gi_wp2
    gi_cut [5] from 16 (fun s5 wx => ∃ y : Nat, s5 = .pointer (some ⟨y, 0, none⟩) ∧ IsB wx y 45 #[.int .u32 ep, .int .u32 mk] ∧ W6.grownBy wx none ∧ W6.heap.size ≤ y)
    case first =>
      refine wpIn_region_F (S := (fun w' : World => w'.cell? ⟨x', 0, none⟩ = some (.int .u32 ep) ∧ w'.cell? ⟨x', 1, none⟩ = some (.int .i64 pl) ∧ w'.cell? ⟨z + 1, 0, none⟩ = some (.pointer (some ⟨s, 0, none⟩)) ∧ w'.cell? ⟨s, 0, none⟩ = some (.int .i64 wi))) (by kernel_rfl) (SC.out _ (gb_drew _ none)) (fun hH0 => ?_)
      refine wpAnyF_take (i := 0) (v := ?v501) rfl (by kernel_rfl) (by kernel_rfl) (by kernel_rfl) (by kernel_rfl) (fun _ _ _ h => h) (Or.inl ⟨by rfl, ?hy501⟩) (fun _ => rfl) (by assumption) ?rest501
      case hy501 => (intro wz hSw; (try dsimp only at hSw); first | (go_simp; done) | (go_simp; with_reducible rfl))
      try simp only [Act.put, List.getElem_toArray, List.getElem_cons_zero, List.setIfInBounds_toArray, List.set_cons_zero, List.set_cons_succ]
      refine wpAnyF_take (i := 1) (v := ?v502) rfl (by kernel_rfl) (by kernel_rfl) (by kernel_rfl) (by kernel_rfl) (fun _ _ _ h => h) (Or.inl ⟨by rfl, ?hy502⟩) (fun _ => rfl) (by assumption) ?rest502
      case hy502 => (intro wz hSw; (try dsimp only at hSw); first | (go_simp; done) | (go_simp; with_reducible rfl))
      try simp only [Act.put, List.getElem_toArray, List.getElem_cons_succ, List.getElem_cons_zero, List.setIfInBounds_toArray, List.set_cons_zero, List.set_cons_succ]
      refine wpAnyF_take (i := 2) (v := ?v503) rfl (by kernel_rfl) (by kernel_rfl) (by kernel_rfl) (by kernel_rfl) (fun _ _ _ h => h) (Or.inl ⟨by rfl, ?hy503⟩) (fun _ => rfl) (by assumption) ?rest503
      case hy503 => (intro wz hSw; (try dsimp only at hSw); first | (go_simp; done) | (go_simp; with_reducible rfl))
      try simp only [Act.put, List.getElem_toArray, List.getElem_cons_succ, List.getElem_cons_zero, List.setIfInBounds_toArray, List.set_cons_zero, List.set_cons_succ]
      refine wpAnyF_take (i := 3) (v := ?v504) rfl (by kernel_rfl) (by kernel_rfl) (by kernel_rfl) (by kernel_rfl) (fun _ _ _ h => h) (Or.inl ⟨by rfl, ?hy504⟩) (fun _ => rfl) (by assumption) ?rest504
      case hy504 => (intro wz hSw; (try dsimp only at hSw); first | (go_simp; done) | (go_simp; with_reducible rfl))
      try simp only [Act.put, List.getElem_toArray, List.getElem_cons_succ, List.getElem_cons_zero, List.setIfInBounds_toArray, List.set_cons_zero, List.set_cons_succ]
      refine wpAnyF_take (i := 4) (v := ?v505) rfl (by kernel_rfl) (by kernel_rfl) (by kernel_rfl) (by kernel_rfl) (fun _ _ _ h => h) (Or.inl ⟨by rfl, ?hy505⟩) (fun _ => rfl) (by assumption) ?rest505
      case hy505 => (intro wz hSw; (try dsimp only at hSw); first | (go_simp; done) | (go_simp; with_reducible rfl))
      try simp only [Act.put, List.getElem_toArray, List.getElem_cons_succ, List.getElem_cons_zero, List.setIfInBounds_toArray, List.set_cons_zero, List.set_cons_succ]
      refine wpAnyF_take (i := 5) (v := ?v506) rfl (by kernel_rfl) (by kernel_rfl) (by kernel_rfl) (by kernel_rfl) (fun _ _ _ h => h) (Or.inl ⟨by rfl, ?hy506⟩) (fun _ => rfl) (by assumption) ?rest506
      case hy506 => (intro wz hSw; (try dsimp only at hSw); first | (go_simp; done) | (go_simp; with_reducible rfl))
      try simp only [Act.put, List.getElem_toArray, List.getElem_cons_succ, List.getElem_cons_zero, List.setIfInBounds_toArray, List.set_cons_zero, List.set_cons_succ]
      refine wpAnyF_take (i := 6) (v := ?v507) rfl (by kernel_rfl) (by kernel_rfl) (by kernel_rfl) (by kernel_rfl) (fun _ _ _ h => h) (Or.inl ⟨by rfl, ?hy507⟩) (fun _ => rfl) (by assumption) ?rest507
      case hy507 => (intro wz hSw; (try dsimp only at hSw); first | (go_simp; done) | (go_simp; with_reducible rfl))
      try simp only [Act.put, List.getElem_toArray, List.getElem_cons_succ, List.getElem_cons_zero, List.setIfInBounds_toArray, List.set_cons_zero, List.set_cons_succ]
      refine wpAnyF_take (i := 7) (v := ?v508) rfl (by kernel_rfl) (by kernel_rfl) (by kernel_rfl) (by kernel_rfl) (fun _ _ _ h => h) (Or.inl ⟨by rfl, ?hy508⟩) (fun _ => rfl) (by assumption) ?rest508
      case hy508 => (intro wz hSw; (try dsimp only at hSw); first | (go_simp; done) | (go_simp; with_reducible rfl))
      try simp only [Act.put, List.getElem_toArray, List.getElem_cons_succ, List.getElem_cons_zero, List.setIfInBounds_toArray, List.set_cons_zero, List.set_cons_succ]
      refine wpAnyF_take (i := 8) (v := ?v509) rfl (by kernel_rfl) (by kernel_rfl) (by kernel_rfl) (by kernel_rfl) (fun _ _ _ h => h) (Or.inl ⟨by rfl, ?hy509⟩) (fun _ => rfl) (by assumption) ?rest509
      case hy509 => (intro wz hSw; (try dsimp only at hSw); first | (go_simp; done) | (go_simp; with_reducible rfl))
      try simp only [Act.put, List.getElem_toArray, List.getElem_cons_succ, List.getElem_cons_zero, List.setIfInBounds_toArray, List.set_cons_zero, List.set_cons_succ]
      refine wpAnyF_take (i := 9) (v := ?v510) rfl (by kernel_rfl) (by kernel_rfl) (by kernel_rfl) (by kernel_rfl) (fun _ _ _ h => h) (Or.inl ⟨by rfl, ?hy510⟩) (fun _ => rfl) (by assumption) ?rest510
      case hy510 => (intro wz hSw; (try dsimp only at hSw); first | (go_simp; done) | (go_simp; with_reducible rfl))
      try simp only [Act.put, List.getElem_toArray, List.getElem_cons_succ, List.getElem_cons_zero, List.setIfInBounds_toArray, List.set_cons_zero, List.set_cons_succ]
      refine wpAnyF_take (i := 10) (v := ?v511) rfl (by kernel_rfl) (by kernel_rfl) (by kernel_rfl) (by kernel_rfl) (fun _ _ _ h => h) (Or.inl ⟨by rfl, ?hy511⟩) (fun _ => rfl) (by assumption) ?rest511
      case hy511 => (intro wz hSw; (try dsimp only at hSw); first | (go_simp; done) | (go_simp; with_reducible rfl))
      try simp only [Act.put, List.getElem_toArray, List.getElem_cons_succ, List.getElem_cons_zero, List.setIfInBounds_toArray, List.set_cons_zero, List.set_cons_succ]
      refine wpAnyF_take (i := 11) (v := ?v512) rfl (by kernel_rfl) (by kernel_rfl) (by kernel_rfl) (by kernel_rfl) (fun _ _ _ h => h) (Or.inl ⟨by rfl, ?hy512⟩) (fun _ => rfl) (by assumption) ?rest512
      case hy512 => (intro wz hSw; (try dsimp only at hSw); first | (go_simp; done) | (go_simp; with_reducible rfl))
      try simp only [Act.put, List.getElem_toArray, List.getElem_cons_succ, List.getElem_cons_zero, List.setIfInBounds_toArray, List.set_cons_zero, List.set_cons_succ]
      refine wpAnyF_take (i := 12) (v := ?v513) rfl (by kernel_rfl) (by kernel_rfl) (by kernel_rfl) (by kernel_rfl) (fun _ _ _ h => h) (Or.inl ⟨by rfl, ?hy513⟩) (fun _ => rfl) (by assumption) ?rest513
      case hy513 => (intro wz hSw; (try dsimp only at hSw); first | (go_simp; done) | (go_simp; with_reducible rfl))
      try simp only [Act.put, List.getElem_toArray, List.getElem_cons_succ, List.getElem_cons_zero, List.setIfInBounds_toArray, List.set_cons_zero, List.set_cons_succ]
      refine wpAnyF_take (i := 13) (v := ?v514) rfl (by kernel_rfl) (by kernel_rfl) (by kernel_rfl) (by kernel_rfl) (fun _ _ _ h => h) (Or.inl ⟨by rfl, ?hy514⟩) (fun _ => rfl) (by assumption) ?rest514
      case hy514 => (intro wz hSw; (try dsimp only at hSw); first | (go_simp; done) | (go_simp; with_reducible rfl))
      try simp only [Act.put, List.getElem_toArray, List.getElem_cons_succ, List.getElem_cons_zero, List.setIfInBounds_toArray, List.set_cons_zero, List.set_cons_succ]
      refine wpAnyF_ready (rs := [14, 16]) (by kernel_rfl) (by simp) ?_
      refine AllF.cons (o := _) rfl (fun K' hK => ?_) (AllF.cons (o := _) rfl (fun K' hK => ?_) AllF.nil)
      · go_simp
        refine ⟨trivial, wd _, ?_⟩
        refine (calls_round l2 (callsIn_wide.2 (PM.out _))).mono ?_
        rintro e hw ⟨rfl, g⟩
        have GA := Lib.hid (gb_trans (gb_drew W6 none) g)
        clear g
        try dsimp only
        refine hK.out _ _ (SC.out _ GA.out) (fun hH1 => ?_)
        clear hK K' hH0
        try simp only [Act.put, List.getElem_toArray, List.getElem_cons_succ, List.getElem_cons_zero, List.setIfInBounds_toArray, List.set_cons_zero, List.set_cons_succ]
        refine wpAnyF_take (i := 15) (v := ?v515) rfl (by kernel_rfl) (by kernel_rfl) (by kernel_rfl) (by kernel_rfl) (fun _ _ _ h => h) (Or.inl ⟨by rfl, ?hy515⟩) (fun _ => rfl) (by assumption) ?rest515
        case hy515 => (intro wz hSw; (try dsimp only at hSw); first | (go_simp; done) | (go_simp; with_reducible rfl))
        try simp only [Act.put, List.getElem_toArray, List.getElem_cons_succ, List.getElem_cons_zero, List.setIfInBounds_toArray, List.set_cons_zero, List.set_cons_succ]
        refine wpAnyF_ready (rs := [16]) (by kernel_rfl) (by simp) ?_
        refine AllF.cons (o := _) rfl (fun K2 hK => ?_) AllF.nil
        go_simp
        have GB := Lib.hid (gb_trans GA.out (gb_alloc hw (.cells #[.int .u32 0, .int .u32 0] 45) none))
        have I := Lib.hid (IsB.new hw 45 #[.int .u32 0, .int .u32 0])
        refine hK.out _ _ (SC.out _ GB.out) (fun hH2 => ?_)
        clear hK K2 hH1
        try simp only [Act.put, List.getElem_toArray, List.getElem_cons_succ, List.getElem_cons_zero, List.setIfInBounds_toArray, List.set_cons_zero, List.set_cons_succ]
        have i0 := I.out.cell 0
        have i1 := I.out.cell 1
        have f0 := I.out.free 0
        have f1 := I.out.free 1
        dsimp at i0 i1
        refine wpAnyF_ready (rs := [17]) (by kernel_rfl) (by simp) ?_
        refine AllF.cons (o := _) rfl (fun K2 hK => ?_) AllF.nil
        go_simp
        refine hK.out _ _ (SC.out _ (gb_trans GA.out (gb_alloc _ _ none))) (fun hH3 => ?_)
        clear hK K2 hH2
        try simp only [Act.put, List.getElem_toArray, List.getElem_cons_succ, List.getElem_cons_zero, List.setIfInBounds_toArray, List.set_cons_zero, List.set_cons_succ]
        refine wpAnyF_done (by kernel_rfl) ?_ _
        clear hH3
        gi_wp2
        gi_meet
        exact ⟨_, rfl, IsB.new _ _ _, gb_trans GA.out (gb_alloc _ _ none), GA.out.size⟩
      · go_simp
        have GA := Lib.hid (gb_trans (gb_alloc W6 (.cells #[.int .u32 0, .int .u32 0] 45) none) (gb_drew _ none))
        have I0 := Lib.hid ((IsB.new W6 45 #[.int .u32 0, .int .u32 0]).keep0 (gb_drew _ none))
        refine hK.out _ _ (SC.out _ GA.out) (fun hH1 => ?_)
        clear hK K' hH0
        try simp only [Act.put, List.getElem_toArray, List.getElem_cons_succ, List.getElem_cons_zero, List.setIfInBounds_toArray, List.set_cons_zero, List.set_cons_succ]
        refine wpAnyF_ready (rs := [14]) (by kernel_rfl) (by simp) ?_
        refine AllF.cons (o := _) rfl (fun K2 hK => ?_) AllF.nil
        go_simp
        refine ⟨trivial, wd _, ?_⟩
        refine (calls_round l2 (callsIn_wide.2 (PM.out _))).mono ?_
        rintro e hw ⟨rfl, g⟩
        have GB := Lib.hid (gb_trans GA.out g)
        have I := Lib.hid (I0.out.keep0 g)
        clear g
        try dsimp only
        refine hK.out _ _ (SC.out _ GB.out) (fun hH2 => ?_)
        clear hK K2 hH1
        try simp only [Act.put, List.getElem_toArray, List.getElem_cons_succ, List.getElem_cons_zero, List.setIfInBounds_toArray, List.set_cons_zero, List.set_cons_succ]
        refine wpAnyF_take (i := 15) (v := ?v516) rfl (by kernel_rfl) (by kernel_rfl) (by kernel_rfl) (by kernel_rfl) (fun _ _ _ h => h) (Or.inl ⟨by rfl, ?hy516⟩) (fun _ => rfl) (by assumption) ?rest516
        case hy516 => (intro wz hSw; (try dsimp only at hSw); first | (go_simp; done) | (go_simp; with_reducible rfl))
        try simp only [Act.put, List.getElem_toArray, List.getElem_cons_succ, List.getElem_cons_zero, List.setIfInBounds_toArray, List.set_cons_zero, List.set_cons_succ]
        have i0 := I.out.cell 0
        have i1 := I.out.cell 1
        have f0 := I.out.free 0
        have f1 := I.out.free 1
        dsimp at i0 i1
        refine wpAnyF_ready (rs := [17]) (by kernel_rfl) (by simp) ?_
        refine AllF.cons (o := _) rfl (fun K2 hK => ?_) AllF.nil
        go_simp
        refine hK.out _ _ (SC.out _ (gb_put (gb_put GB.out (Nat.le_refl _)) (Nat.le_refl _))) (fun hH3 => ?_)
        clear hK K2 hH2
        try simp only [Act.put, List.getElem_toArray, List.getElem_cons_succ, List.getElem_cons_zero, List.setIfInBounds_toArray, List.set_cons_zero, List.set_cons_succ]
        refine wpAnyF_done (by kernel_rfl) ?_ _
        clear hH3
        gi_wp2
        gi_meet
        exact ⟨_, rfl, (I.out.set 0 _).set 1 _, gb_put (gb_put GB.out (Nat.le_refl _)) (Nat.le_refl _), Nat.le_refl _⟩
    case rest =>
      obtain ⟨y, rfl, iy, gy, ly⟩ := hcut
      have IY := Lib.hid iy
      have GY := Lib.hid gy
      have AY := Lib.hid (A6.out.keep0 gy)
      have NBY := Lib.hid (NB.out.keep0 gy)
      have JY := Lib.hid (HJ.out _ _ _ J6.out (Kt.of_gb gy))
      clear iy gy ly A6 NB J6 J5 A5
      cases st
      · have E2 := Lib.hid (show sto ((nds T).take (pre ++ [x']).length) = sto ((nds T).take i) by rw [List.length_append, List.length_singleton, ← HI.out, ST2.out]; simp)
        gi_wp2
        refine wpIn_region_F (S := (fun w' : World => w'.cell? ⟨x', 2, none⟩ = some (.bool false))) (by kernel_rfl) ((NBY.out.keep0 (gb_drew _ none)).cell 2) (fun hH0 => ?_)
        refine wpAnyF_take (i := 0) (v := ?v517) rfl (by kernel_rfl) (by kernel_rfl) (by kernel_rfl) (by kernel_rfl) (fun _ _ _ h => h) (Or.inl ⟨by rfl, ?hy517⟩) (fun _ => rfl) (by assumption) ?rest517
        case hy517 => (intro wz hSw; (try dsimp only at hSw); first | (go_simp; done) | (go_simp; with_reducible rfl))
        try simp only [Act.put, List.getElem_toArray, List.getElem_cons_zero, List.setIfInBounds_toArray, List.set_cons_zero, List.set_cons_succ]
        refine wpAnyF_take (i := 1) (v := ?v518) rfl (by kernel_rfl) (by kernel_rfl) (by kernel_rfl) (by kernel_rfl) (fun _ _ _ h => h) (Or.inl ⟨by rfl, ?hy518⟩) (fun _ => rfl) (by assumption) ?rest518
        case hy518 => (intro wz hSw; (try dsimp only at hSw); first | (go_simp; done) | (go_simp; with_reducible rfl))
        try simp only [Act.put, List.getElem_toArray, List.getElem_cons_succ, List.getElem_cons_zero, List.setIfInBounds_toArray, List.set_cons_zero, List.set_cons_succ]
        refine wpAnyF_take (i := 2) (v := ?v519) rfl (by kernel_rfl) (by kernel_rfl) (by kernel_rfl) (by kernel_rfl) (fun _ _ _ h => h) (Or.inl ⟨by rfl, ?hy519⟩) (fun _ => rfl) (by assumption) ?rest519
        case hy519 => (intro wz hSw; (try dsimp only at hSw); first | (go_simp; done) | (go_simp; with_reducible rfl))
        try simp only [Act.put, List.getElem_toArray, List.getElem_cons_succ, List.getElem_cons_zero, List.setIfInBounds_toArray, List.set_cons_zero, List.set_cons_succ]
        refine wpAnyF_take (i := 3) (v := ?v520) rfl (by kernel_rfl) (by kernel_rfl) (by kernel_rfl) (by kernel_rfl) (fun _ _ _ h => h) (Or.inl ⟨by rfl, ?hy520⟩) (fun _ => rfl) (by assumption) ?rest520
        case hy520 => (intro wz hSw; (try dsimp only at hSw); first | (go_simp; done) | (go_simp; with_reducible rfl))
        try simp only [Act.put, List.getElem_toArray, List.getElem_cons_succ, List.getElem_cons_zero, List.setIfInBounds_toArray, List.set_cons_zero, List.set_cons_succ]
        refine wpAnyF_take (i := 4) (v := ?v521) rfl (by kernel_rfl) (by kernel_rfl) (by kernel_rfl) (by kernel_rfl) (fun _ _ _ h => h) (Or.inl ⟨by rfl, ?hy521⟩) (fun _ => rfl) (by assumption) ?rest521
        case hy521 => (intro wz hSw; (try dsimp only at hSw); first | (go_simp; done) | (go_simp; with_reducible rfl))
        try simp only [Act.put, List.getElem_toArray, List.getElem_cons_succ, List.getElem_cons_zero, List.setIfInBounds_toArray, List.set_cons_zero, List.set_cons_succ]
        refine wpAnyF_take (i := 5) (v := undef) rfl (by kernel_rfl) (by kernel_rfl) (by kernel_rfl) (by kernel_rfl) (fun _ _ _ h => h) (Or.inr ⟨by rfl, rfl⟩) (fun _ => rfl) (by assumption) ?_
        try simp only [Act.put, List.getElem_toArray, List.getElem_cons_succ, List.getElem_cons_zero, List.setIfInBounds_toArray, List.set_cons_zero, List.set_cons_succ]
        refine wpAnyF_take (i := 6) (v := undef) rfl (by kernel_rfl) (by kernel_rfl) (by kernel_rfl) (by kernel_rfl) (fun _ _ _ h => h) (Or.inr ⟨by rfl, rfl⟩) (fun _ => rfl) (by assumption) ?_
        try simp only [Act.put, List.getElem_toArray, List.getElem_cons_succ, List.getElem_cons_zero, List.setIfInBounds_toArray, List.set_cons_zero, List.set_cons_succ]
        refine wpAnyF_take (i := 7) (v := undef) rfl (by kernel_rfl) (by kernel_rfl) (by kernel_rfl) (by kernel_rfl) (fun _ _ _ h => h) (Or.inr ⟨by rfl, rfl⟩) (fun _ => rfl) (by assumption) ?_
        try simp only [Act.put, List.getElem_toArray, List.getElem_cons_succ, List.getElem_cons_zero, List.setIfInBounds_toArray, List.set_cons_zero, List.set_cons_succ]
        refine wpAnyF_take (i := 8) (v := undef) rfl (by kernel_rfl) (by kernel_rfl) (by kernel_rfl) (by kernel_rfl) (fun _ _ _ h => h) (Or.inr ⟨by rfl, rfl⟩) (fun _ => rfl) (by assumption) ?_
        try simp only [Act.put, List.getElem_toArray, List.getElem_cons_succ, List.getElem_cons_zero, List.setIfInBounds_toArray, List.set_cons_zero, List.set_cons_succ]
        refine wpAnyF_take (i := 9) (v := undef) rfl (by kernel_rfl) (by kernel_rfl) (by kernel_rfl) (by kernel_rfl) (fun _ _ _ h => h) (Or.inr ⟨by rfl, rfl⟩) (fun _ => rfl) (by assumption) ?_
        try simp only [Act.put, List.getElem_toArray, List.getElem_cons_succ, List.getElem_cons_zero, List.setIfInBounds_toArray, List.set_cons_zero, List.set_cons_succ]
        refine wpAnyF_take (i := 10) (v := undef) rfl (by kernel_rfl) (by kernel_rfl) (by kernel_rfl) (by kernel_rfl) (fun _ _ _ h => h) (Or.inr ⟨by rfl, rfl⟩) (fun _ => rfl) (by assumption) ?_
        try simp only [Act.put, List.getElem_toArray, List.getElem_cons_succ, List.getElem_cons_zero, List.setIfInBounds_toArray, List.set_cons_zero, List.set_cons_succ]
        refine wpAnyF_take (i := 11) (v := undef) rfl (by kernel_rfl) (by kernel_rfl) (by kernel_rfl) (by kernel_rfl) (fun _ _ _ h => h) (Or.inr ⟨by rfl, rfl⟩) (fun _ => rfl) (by assumption) ?_
        try simp only [Act.put, List.getElem_toArray, List.getElem_cons_succ, List.getElem_cons_zero, List.setIfInBounds_toArray, List.set_cons_zero, List.set_cons_succ]
        refine wpAnyF_take (i := 12) (v := undef) rfl (by kernel_rfl) (by kernel_rfl) (by kernel_rfl) (by kernel_rfl) (fun _ _ _ h => h) (Or.inr ⟨by rfl, rfl⟩) (fun _ => rfl) (by assumption) ?_
        try simp only [Act.put, List.getElem_toArray, List.getElem_cons_succ, List.getElem_cons_zero, List.setIfInBounds_toArray, List.set_cons_zero, List.set_cons_succ]
        refine wpAnyF_take (i := 13) (v := ?v522) rfl (by kernel_rfl) (by kernel_rfl) (by kernel_rfl) (by kernel_rfl) (fun _ _ _ h => h) (Or.inl ⟨by rfl, ?hy522⟩) (fun _ => rfl) (by assumption) ?rest522
        case hy522 => (intro wz hSw; (try dsimp only at hSw); first | (go_simp; done) | (go_simp; with_reducible rfl))
        try simp only [Act.put, List.getElem_toArray, List.getElem_cons_succ, List.getElem_cons_zero, List.setIfInBounds_toArray, List.set_cons_zero, List.set_cons_succ]
        refine wpAnyF_done (by kernel_rfl) ?_ _
        clear hH0
        gi_wp2
        exact ⟨Kt.of_gb (gb_trans GY.out (gb_drew _ none)), by rw [E2.out]; exact HJ.out _ _ _ JY.out (Kt.of_gb (gb_drew _ none)), AY.out.keep0 (gb_drew _ none)⟩
      · have E2 := Lib.hid (show sto ((nds T).take (pre ++ [x']).length) = sto ((nds T).take i) ++ [(p, xv)] by rw [List.length_append, List.length_singleton, ← HI.out, ST2.out]; simp)
        have PX := Lib.hid (show sto ((nds T).take i) ++ [(p, xv)] <+: Z by rw [HZ.out]; have k := SP2.out; rw [ST2.out] at k; simpa using k)
        gi_wp2
        have CY := Lib.hid (fun (w' : World) (q0 : wc.grownBy w' none) => (⟨(AY.out.y.keep0 q0).cell 0, (IY.out.keep0 q0).cell 0, (IY.out.keep0 q0).cell 1, (NBY.out.keep0 q0).cell 2, (NBY.out.keep0 q0).cell 3⟩ : (fun w' : World => w'.cell? ⟨z, 0, none⟩ = some (.func (.yield l) #[] #[]) ∧ w'.cell? ⟨y, 0, none⟩ = some (.int .u32 ep) ∧ w'.cell? ⟨y, 1, none⟩ = some (.int .u32 mk) ∧ w'.cell? ⟨x', 2, none⟩ = some (.bool true) ∧ w'.cell? ⟨x', 3, none⟩ = some (.int .i64 xv)) w'))
        refine wpIn_region_F (S := (fun w' : World => w'.cell? ⟨z, 0, none⟩ = some (.func (.yield l) #[] #[]) ∧ w'.cell? ⟨y, 0, none⟩ = some (.int .u32 ep) ∧ w'.cell? ⟨y, 1, none⟩ = some (.int .u32 mk) ∧ w'.cell? ⟨x', 2, none⟩ = some (.bool true) ∧ w'.cell? ⟨x', 3, none⟩ = some (.int .i64 xv))) (by kernel_rfl) (CY.out _ (gb_drew _ none)) (fun hH0 => ?_)
        refine wpAnyF_take (i := 0) (v := ?v523) rfl (by kernel_rfl) (by kernel_rfl) (by kernel_rfl) (by kernel_rfl) (fun _ _ _ h => h) (Or.inl ⟨by rfl, ?hy523⟩) (fun _ => rfl) (by assumption) ?rest523
        case hy523 => (intro wz hSw; (try dsimp only at hSw); first | (go_simp; done) | (go_simp; with_reducible rfl))
        try simp only [Act.put, List.getElem_toArray, List.getElem_cons_zero, List.setIfInBounds_toArray, List.set_cons_zero, List.set_cons_succ]
        refine wpAnyF_take (i := 1) (v := ?v524) rfl (by kernel_rfl) (by kernel_rfl) (by kernel_rfl) (by kernel_rfl) (fun _ _ _ h => h) (Or.inl ⟨by rfl, ?hy524⟩) (fun _ => rfl) (by assumption) ?rest524
        case hy524 => (intro wz hSw; (try dsimp only at hSw); first | (go_simp; done) | (go_simp; with_reducible rfl))
        try simp only [Act.put, List.getElem_toArray, List.getElem_cons_succ, List.getElem_cons_zero, List.setIfInBounds_toArray, List.set_cons_zero, List.set_cons_succ]
        refine wpAnyF_take (i := 2) (v := ?v525) rfl (by kernel_rfl) (by kernel_rfl) (by kernel_rfl) (by kernel_rfl) (fun _ _ _ h => h) (Or.inl ⟨by rfl, ?hy525⟩) (fun _ => rfl) (by assumption) ?rest525
        case hy525 => (intro wz hSw; (try dsimp only at hSw); first | (go_simp; done) | (go_simp; with_reducible rfl))
        try simp only [Act.put, List.getElem_toArray, List.getElem_cons_succ, List.getElem_cons_zero, List.setIfInBounds_toArray, List.set_cons_zero, List.set_cons_succ]
        refine wpAnyF_take (i := 3) (v := ?v526) rfl (by kernel_rfl) (by kernel_rfl) (by kernel_rfl) (by kernel_rfl) (fun _ _ _ h => h) (Or.inl ⟨by rfl, ?hy526⟩) (fun _ => rfl) (by assumption) ?rest526
        case hy526 => (intro wz hSw; (try dsimp only at hSw); first | (go_simp; done) | (go_simp; with_reducible rfl))
        try simp only [Act.put, List.getElem_toArray, List.getElem_cons_succ, List.getElem_cons_zero, List.setIfInBounds_toArray, List.set_cons_zero, List.set_cons_succ]
        refine wpAnyF_take (i := 4) (v := ?v527) rfl (by kernel_rfl) (by kernel_rfl) (by kernel_rfl) (by kernel_rfl) (fun _ _ _ h => h) (Or.inl ⟨by rfl, ?hy527⟩) (fun _ => rfl) (by assumption) ?rest527
        case hy527 => (intro wz hSw; (try dsimp only at hSw); first | (go_simp; done) | (go_simp; with_reducible rfl))
        try simp only [Act.put, List.getElem_toArray, List.getElem_cons_succ, List.getElem_cons_zero, List.setIfInBounds_toArray, List.set_cons_zero, List.set_cons_succ]
        refine wpAnyF_take (i := 5) (v := ?v528) rfl (by kernel_rfl) (by kernel_rfl) (by kernel_rfl) (by kernel_rfl) (fun _ _ _ h => h) (Or.inl ⟨by rfl, ?hy528⟩) (fun _ => rfl) (by assumption) ?rest528
        case hy528 => (intro wz hSw; (try dsimp only at hSw); first | (go_simp; done) | (go_simp; with_reducible rfl))
        try simp only [Act.put, List.getElem_toArray, List.getElem_cons_succ, List.getElem_cons_zero, List.setIfInBounds_toArray, List.set_cons_zero, List.set_cons_succ]
        refine wpAnyF_take (i := 6) (v := ?v529) rfl (by kernel_rfl) (by kernel_rfl) (by kernel_rfl) (by kernel_rfl) (fun _ _ _ h => h) (Or.inl ⟨by rfl, ?hy529⟩) (fun _ => rfl) (by assumption) ?rest529
        case hy529 => (intro wz hSw; (try dsimp only at hSw); first | (go_simp; done) | (go_simp; with_reducible rfl))
        try simp only [Act.put, List.getElem_toArray, List.getElem_cons_succ, List.getElem_cons_zero, List.setIfInBounds_toArray, List.set_cons_zero, List.set_cons_succ]
        refine wpAnyF_take (i := 7) (v := ?v530) rfl (by kernel_rfl) (by kernel_rfl) (by kernel_rfl) (by kernel_rfl) (fun _ _ _ h => h) (Or.inl ⟨by rfl, ?hy530⟩) (fun _ => rfl) (by assumption) ?rest530
        case hy530 => (intro wz hSw; (try dsimp only at hSw); first | (go_simp; done) | (go_simp; with_reducible rfl))
        try simp only [Act.put, List.getElem_toArray, List.getElem_cons_succ, List.getElem_cons_zero, List.setIfInBounds_toArray, List.set_cons_zero, List.set_cons_succ]
        refine wpAnyF_take (i := 8) (v := ?v531) rfl (by kernel_rfl) (by kernel_rfl) (by kernel_rfl) (by kernel_rfl) (fun _ _ _ h => h) (Or.inl ⟨by rfl, ?hy531⟩) (fun _ => rfl) (by assumption) ?rest531
        case hy531 => (intro wz hSw; (try dsimp only at hSw); first | (go_simp; done) | (go_simp; with_reducible rfl))
        try simp only [Act.put, List.getElem_toArray, List.getElem_cons_succ, List.getElem_cons_zero, List.setIfInBounds_toArray, List.set_cons_zero, List.set_cons_succ]
        refine wpAnyF_take (i := 9) (v := ?v532) rfl (by kernel_rfl) (by kernel_rfl) (by kernel_rfl) (by kernel_rfl) (fun _ _ _ h => h) (Or.inl ⟨by rfl, ?hy532⟩) (fun _ => rfl) (by assumption) ?rest532
        case hy532 => (intro wz hSw; (try dsimp only at hSw); first | (go_simp; done) | (go_simp; with_reducible rfl))
        try simp only [Act.put, List.getElem_toArray, List.getElem_cons_succ, List.getElem_cons_zero, List.setIfInBounds_toArray, List.set_cons_zero, List.set_cons_succ]
        refine wpAnyF_take (i := 10) (v := ?v533) rfl (by kernel_rfl) (by kernel_rfl) (by kernel_rfl) (by kernel_rfl) (fun _ _ _ h => h) (Or.inl ⟨by rfl, ?hy533⟩) (fun _ => rfl) (by assumption) ?rest533
        case hy533 => (intro wz hSw; (try dsimp only at hSw); first | (go_simp; done) | (go_simp; with_reducible rfl))
        try simp only [Act.put, List.getElem_toArray, List.getElem_cons_succ, List.getElem_cons_zero, List.setIfInBounds_toArray, List.set_cons_zero, List.set_cons_succ]
        obtain ⟨fn, tmps, assign, body, hy, hR⟩ := yield_any (n - 1 - 1 - 1) (HY.out _ (p, xv) wc.drew PX.out (HJ.out _ _ _ JY.out (Kt.of_gb (gb_drew _ none))))
        dsimp only [enE] at hy
        rw [← HEP.out, ← HMK.out] at hy
        refine wpAnyF_ready (rs := [11]) (by kernel_rfl) (by simp) ?_
        refine AllF.cons (o := _) rfl (fun K2 hK => ?_) AllF.nil
        go_simp
        (first | refine ⟨trivial, wd _, ?_⟩ | refine ⟨wd _, ?_⟩ | refine ⟨trivial, ?_⟩ | skip)
        refine (round_in l2 hR).mono ?_
        clear hR
        rintro e w7 (⟨rfl, j7, k7⟩ | ⟨rfl, j7, k7⟩)
        all_goals (
          have A7 := Lib.hid ((AY.out.keep0 (gb_drew _ none)).kt k7 (fun _ _ => HT3.out) (fun _ _ => HT4.out) (fun _ _ => HT5.out) (fun _ _ => HT1.out))
          have N7 := Lib.hid (k7.isb (NBY.out.keep0 (gb_drew _ none)) HT1.out)
          have I7 := Lib.hid (k7.isb (IY.out.keep0 (gb_drew _ none)) HT6.out)
          have K7 := Lib.hid ((Kt.of_gb (own := KB TC z) (gb_trans GY.out (gb_drew _ none))).trans k7)
          have J7 := Lib.hid j7
          clear k7 j7 hy
          refine hK.out _ _ (⟨A7.out.y.cell 0, I7.out.cell 0, I7.out.cell 1, N7.out.cell 2, N7.out.cell 3⟩ : (fun w' : World => w'.cell? ⟨z, 0, none⟩ = some (.func (.yield l) #[] #[]) ∧ w'.cell? ⟨y, 0, none⟩ = some (.int .u32 ep) ∧ w'.cell? ⟨y, 1, none⟩ = some (.int .u32 mk) ∧ w'.cell? ⟨x', 2, none⟩ = some (.bool true) ∧ w'.cell? ⟨x', 3, none⟩ = some (.int .i64 xv)) _) (fun hH1 => ?_)
          clear hK hH0)
        · try simp only [Act.put, List.getElem_toArray, List.getElem_cons_succ, List.getElem_cons_zero, List.setIfInBounds_toArray, List.set_cons_zero, List.set_cons_succ]
          refine wpAnyF_take (i := 12) (v := ?v534) rfl (by kernel_rfl) (by kernel_rfl) (by kernel_rfl) (by kernel_rfl) (fun _ _ _ h => h) (Or.inl ⟨by rfl, ?hy534⟩) (fun _ => rfl) (by assumption) ?rest534
          case hy534 => (intro wz hSw; (try dsimp only at hSw); first | (go_simp; done) | (go_simp; with_reducible rfl))
          try simp only [Act.put, List.getElem_toArray, List.getElem_cons_succ, List.getElem_cons_zero, List.setIfInBounds_toArray, List.set_cons_zero, List.set_cons_succ]
          refine wpAnyF_take (i := 13) (v := ?v535) rfl (by kernel_rfl) (by kernel_rfl) (by kernel_rfl) (by kernel_rfl) (fun _ _ _ h => h) (Or.inl ⟨by rfl, ?hy535⟩) (fun _ => rfl) (by assumption) ?rest535
          case hy535 => (intro wz hSw; (try dsimp only at hSw); first | (go_simp; done) | (go_simp; with_reducible rfl))
          try simp only [Act.put, List.getElem_toArray, List.getElem_cons_succ, List.getElem_cons_zero, List.setIfInBounds_toArray, List.set_cons_zero, List.set_cons_succ]
          refine wpAnyF_done (by kernel_rfl) ?_ _
          clear hH1
          gi_wp2
          exact ⟨K7.out.mono (KB.mono SZ.out), by rw [E2.out]; exact J7.out, A7.out⟩
        · try simp only [Act.put, List.getElem_toArray, List.getElem_cons_succ, List.getElem_cons_zero, List.setIfInBounds_toArray, List.set_cons_zero, List.set_cons_succ]
          refine wpAnyF_take (i := 12) (v := ?v536) rfl (by kernel_rfl) (by kernel_rfl) (by kernel_rfl) (by kernel_rfl) (fun _ _ _ h => h) (Or.inl ⟨by rfl, ?hy536⟩) (fun _ => rfl) (by assumption) ?rest536
          case hy536 => (intro wz hSw; (try dsimp only at hSw); first | (go_simp; done) | (go_simp; with_reducible rfl))
          try simp only [Act.put, List.getElem_toArray, List.getElem_cons_succ, List.getElem_cons_zero, List.setIfInBounds_toArray, List.set_cons_zero, List.set_cons_succ]
          refine wpAnyF_take (i := 13) (v := ?v537) rfl (by kernel_rfl) (by kernel_rfl) (by kernel_rfl) (by kernel_rfl) (fun _ _ _ h => h) (Or.inl ⟨by rfl, ?hy537⟩) (fun _ => rfl) (by assumption) ?rest537
          case hy537 => (intro wz hSw; (try dsimp only at hSw); first | (go_simp; done) | (go_simp; with_reducible rfl))
          try simp only [Act.put, List.getElem_toArray, List.getElem_cons_succ, List.getElem_cons_zero, List.setIfInBounds_toArray, List.set_cons_zero, List.set_cons_succ]
          refine wpAnyF_done (by kernel_rfl) ?_ _
          clear hH1
          gi_wp2
          exact ⟨K7.out.mono (KB.mono SZ.out), rfl, _, PX.out, J7.out⟩
  case done =>
    rintro D w5 hD ⟨j5, a5⟩ hK
    gi_wp2
    refine ⟨by simp, .inl ⟨_, _, rfl, run_takeDeferred hK, ?_⟩⟩
    have e : sto ((nds T).take (blks T).length) = Z := by rw [← nds_blks, List.length_map, List.take_length, HZ.out]
    rw [e] at j5
    refine ⟨_, results_none rfl _ _ _, ⟨_, rfl⟩, .inl (HJ.out _ _ _ j5 (Kt.put _ fun o h => by rw [hK] at h; cases h; exact ⟨Nat.le_trans SZ.out hD, trivial⟩))⟩
  case stop =>
    rintro D c pre w5 hD hp ⟨rfl, p, hp2, j5⟩ hK
    gi_wp2
    refine ⟨by simp, .inl ⟨_, _, rfl, run_takeDeferred hK, ?_⟩⟩
    refine ⟨_, results_none rfl _ _ _, ⟨_, rfl⟩, .inr ⟨p, hp2, HJx.out _ _ _ j5 (Kt.put _ fun o h => by rw [hK] at h; cases h; exact ⟨Nat.le_trans SZ.out hD, trivial⟩)⟩⟩
end Go.Proofs.Ytidjggaffioekaa
