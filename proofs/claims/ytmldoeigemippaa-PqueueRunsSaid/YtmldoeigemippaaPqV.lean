/- The law Sorts. -/
import Derived.Test.YtmldoeigemippaaPqU
namespace Go.Proofs.Ytmldoeigemippaa
open Go.RowKit
set_option linter.unusedVariables false

/-- A row of truth values that the call owns. -/
def OB (w : World) (base : Nat) (V : Value) (L : List Bool) : Prop := w.ownsRow base 4 1 V L.length (L.map Value.bool)
theorem OB.put {w : World} {base g n c : Nat} {L : List Bool} (h : OB w base (.slice (some ⟨g, 0, none⟩) n c) L) (hn : n = L.length) (p : Nat) (v : Bool) :
    OB (w.setCell ⟨g, p, none⟩ (.bool v)) base (.slice (some ⟨g, 0, none⟩) n c) (L.set p v) := by
  subst hn
  have k := (World.ownsRow.stored h p (.bool v)).1
  unfold OB
  rw [List.map_set, List.length_set]
  exact k
theorem OB.free {w : World} {base g n c : Nat} {L : List Bool} (h : OB w base (.slice (some ⟨g, 0, none⟩) n c) L) (hn : n = L.length) (p : Nat) : w.frozen? ⟨g, p, none⟩ = false := by
  subst hn
  obtain ⟨cs, hb⟩ := own_blk h
  exact hb.free p
theorem OB.at_ {w : World} {base g n c : Nat} {L : List Bool} (h : OB w base (.slice (some ⟨g, 0, none⟩) n c) L) (hn : n = L.length) (p : Nat) (hp : p < L.length) : w.cell? ⟨g, p, none⟩ = some (.bool (L.getD p false)) := by
  subst hn
  rw [World.ownsRow.cellAt h p (by omega)]
  simp [hp]
theorem infoBool : (Try.prog.info? 4).map (fun i => (i.zero, i.size, i.bytes)) = some (some (.bool false), 1, 1) := by kernel_rfl
def TBo (t : TypeId) : Prop := t = 4
theorem OB.turn {W w : World} {base g n c : Nat} {L : List Bool} (h : OB w base (.slice (some ⟨g, 0, none⟩) n c) L) (hn : n = L.length) (hb : W.heap.size ≤ base) (p : Nat) (v : Value) : Kt (KI TBo W.heap.size) w (w.setCell ⟨g, p, none⟩ v) := by
  subst hn
  obtain ⟨cs, k⟩ := own_blk h
  exact Kt.of_row (gb_set w g p v) fun o ho => by
    rw [show w.heap[g]? = _ from k] at ho; cases ho
    exact ⟨Nat.le_trans hb (World.ownsRow.lt h g rfl).1, rfl⟩
theorem TBo_no {n b : Nat} {t : TypeId} {cs : Array Value} (h : KI TBo n b (.cells cs t (0, 0))) (hn : t ≠ 4) : False := hn h.2
theorem DQ.turn {W : World} {q s : Nat} {cap : Int} {E : Int → Int} {p : Int} {T : List Int} {w w2 : World} (h : DQ W q s cap E p T w) (k : Kt (KI TBo W.heap.size) w w2) : DQ W q s cap E p T w2 :=
  h.kept k (Kt.ts_gb h.grown k) (fun _ _ q => TBo_no q (by decide)) (fun _ _ q => TBo_no q (by decide)) (fun _ _ q => TBo_no q (by decide))
theorem OB.ts {B : Nat} {w w2 : World} {base : Nat} {V : Value} {L : List Bool} (h : OB w base V L) (k : Kt (KI TS B) w w2) : OB w2 base V L :=
  k.row h fun _ _ q => by rcases q.2 with e | e <;> exact absurd e (by decide)
theorem Srt.turns {T : List Int} (h : Srt T) {c d : Int} (hc : c ∈ T) (hd : d ∈ T) (he : tC c = tC d) : c = d := by
  obtain ⟨i, hi, rfl⟩ := List.mem_iff_getElem.1 hc
  obtain ⟨j, hj, rfl⟩ := List.mem_iff_getElem.1 hd
  have e1 : T.getD i 0 = T[i] := by simp [hi]
  have e2 : T.getD j 0 = T[j] := by simp [hj]
  rcases Nat.lt_trichotomy i j with l | l | l
  · have := h i j l hj; rw [e1, e2] at this; omega
  · subst l; rfl
  · have := h j i l hi; rw [e1, e2] at this; omega
theorem cutP_nmem {T : List Int} (h : Srt T) (k : Nat) (hk : k < T.length) : T.getD k 0 ∉ cutP T k := by
  intro hm
  have a := cutP_count T k hk (T.getD k 0)
  have b := h.count (T.getD k 0)
  have c := List.count_pos_iff.2 hm
  rw [if_pos rfl] at a
  omega
/-- What holds between two pops: T is left, sn tells which turns are gone, the last was key, last. -/
structure SI (zs : List Int) (n i : Nat) (T : List Int) (sn : List Bool) (key last : Int) : Prop where
  len : i + T.length = n
  sl : sn.length = n
  free : ∀ c ∈ T, sn.getD (tC c).toNat false = false
  ky : ∀ c ∈ T, 0 ≤ tC c ∧ tC c < n ∧ kC c = zs.getD (tC c).toNat 0
  last : i = 0 ∨ ∀ c ∈ T, key < kC c ∨ (key = kC c ∧ last < tC c)
theorem cU_mem (zs : List Int) (n : Nat) (hn : n ≤ 1000) : ∀ c ∈ cU zs n, 0 ≤ tC c ∧ tC c < n ∧ kC c = zs.getD (tC c).toNat 0 := by
  intro c hc
  unfold cU at hc
  obtain ⟨j, hj, rfl⟩ := List.mem_map.1 hc
  have hj := List.mem_range.1 hj
  obtain ⟨k1, k2⟩ := codeOf_k (zs.getD j 0) j (by omega) (by omega)
  rw [k1, k2]
  refine ⟨by omega, by omega, by simp⟩
theorem SI.start (zs : List Int) (n : Nat) (hn : n ≤ 1000) : SI zs n 0 (cU zs n) (List.replicate n false) 0 (-1) :=
  ⟨by rw [cU_len]; omega, by simp, fun c hc => by simp [List.getD_eq_getElem?_getD, List.getElem?_replicate]; split <;> rfl, cU_mem zs n hn, .inl rfl⟩
theorem SI.step {zs : List Int} {n i : Nat} {T : List Int} {sn : List Bool} {key last : Int} (h : SI zs n i T sn key last) (hs : Srt T) (h0 : 0 < T.length) :
    ∃ (x : Int) (t : Nat), x = minT T ∧ tC x = t ∧ t < n ∧ sn.getD t false = false ∧ zs.getD t 0 = kC x ∧ (i = 0 ∨ key < kC x ∨ (key = kC x ∧ last < t)) ∧ SI zs n (i + 1) (popT T) (sn.set t true) (kC x) t := by
  have hk := fsK_lt T h0 T.length (Nat.le_refl _)
  have hx : minT T ∈ T := getD_mem' _ _ hk
  obtain ⟨k1, k2, k3⟩ := h.ky _ hx
  obtain ⟨t, ht⟩ : ∃ t : Nat, tC (minT T) = t := ⟨(tC (minT T)).toNat, by omega⟩
  rw [ht] at k2 k3
  have fr := h.free _ hx
  rw [ht] at fr
  simp only [Int.toNat_natCast] at k3 fr
  refine ⟨minT T, t, rfl, ht, by omega, fr, k3.symm, ?_, ?_⟩
  · rcases h.last with e | e
    · exact .inl e
    · have := e _ hx
      rw [ht] at this
      exact .inr this
  · refine ⟨by rw [popT_len T h0]; have := h.len; omega, by rw [List.length_set]; exact h.sl, ?_, fun c hc => h.ky c (popT_mem T c hc), .inr ?_⟩
    · intro c hc
      have hc2 := popT_mem T c hc
      have ne : (tC c).toNat ≠ t := by
        intro e
        have a := (h.ky c hc2).1
        have : c = minT T := hs.turns hc2 hx (by rw [ht]; omega)
        subst this
        exact cutP_nmem hs _ hk hc
      have f := h.free c hc2
      rw [List.getD_eq_getElem?_getD] at f ⊢
      rw [List.getElem?_set_ne (Ne.symm ne)]
      exact f
    · intro c hc
      have hc2 := popT_mem T c hc
      obtain ⟨j, hj, e⟩ := List.mem_iff_getElem.1 hc2
      have l1 := fsK_least T hs T.length (Nat.le_refl _) j hj
      rw [show T.getD j 0 = T[j] by simp [hj], e] at l1
      have ne : minT T ≠ c := by intro e2; subst e2; exact cutP_nmem hs _ hk hc
      have lt : minT T < c := by unfold minT at ne ⊢; omega
      rw [code_lt, ht] at lt
      exact lt
theorem dq_pop_id {W w : World} {q s : Nat} {cap p : Int} {T : List Int} (h : DQ W q s cap (fun t => t) p T w) (hn : T.length ≤ 100000) (h0 : 0 < T.length) (x : Int) (t : Nat) (hx : x = minT T) (ht : tC x = t) :
    Calls Try.prog 13 #[.pointer (some ⟨q, 0, none⟩)] w fun e w' => e = .returned (.tuple #[.int .i64 (kC x), .int .i64 t, .bool true]) ∧ DQ W q s cap (fun t => t) p (popT T) w' ∧ Kt (KI TS W.heap.size) w w' := by
  have k := dq_pop h hn h0
  rw [← hx] at k
  rwa [ht] at k
set_option maxRecDepth 100000 in
set_option maxHeartbeats 1000000 in
theorem sorts_walk (a0 : Option Addr) (len0 cap0 : Nat) (z0 : List Int) (W : World) (w0 : IsRow .i64 W a0 len0 cap0 z0) : Calls Try.prog 4 #[.slice a0 len0 cap0] W (RetV (.bool true) W) := by
  by_cases h3 : (300 : Int) < len0
  · clear w0
    go_enter Try.func4, Try.ntmps4
    go_wp2_with (go_at_call 7; refine (awake_any _).mono ?_; rintro e w8 ⟨rfl, g8⟩)
    go_ret
    exact ⟨rfl, g8⟩
  obtain ⟨i0, hi, hz0, hz1, hz2⟩ := info_parts infoBool
  have HI := Lib.hid hi
  have hl := row_len w0
  have hs := row_slr w0
  obtain ⟨zs, hz⟩ : ∃ zs, zs = z0.take len0 := ⟨_, rfl⟩
  rw [← hz] at hl hs
  obtain ⟨n, hn⟩ : ∃ n, n = len0 := ⟨_, rfl⟩
  rw [← hn] at hl hs h3 ⊢
  have HS := Lib.hid hs
  have HL := Lib.hid hl
  clear w0 hz hn hl hs hi
  have D0 := DQ.new W W (fun t => t) (n : Int) (gb_refl _ _)
  have NB : (n : Int) ≤ 300 := by omega
  go_enter Try.func4, Try.ntmps4
  go_upto_region 4 with (go_at_call 8; refine (new_good _ (n : Int) (by omega) (by omega)).mono ?_; rintro e w1 ⟨rfl, rfl⟩)
  generalize (W.alloc (.cells #[.int .i64 (n : Int), .int .u64 0, .slice none 0 0] 62)).alloc (.cells #[.pointer (some ⟨W.heap.size, 0, none⟩)] 56) = w1 at *
  obtain ⟨q, hq⟩ : ∃ q, q = W.heap.size + 1 := ⟨_, rfl⟩
  obtain ⟨s, hs⟩ : ∃ s, s = W.heap.size := ⟨_, rfl⟩
  rw [← hq, ← hs] at D0
  rw [← hq]
  have D1 := Lib.hid D0
  clear D0 hq hs
  go_wp2
  go_loopw [5] (fun i wr => ∃ j : Nat, j ≤ n ∧ i = .int .i64 j ∧ DQ W q s (n : Int) (fun t => t) j (cU zs j) wr) (fun i _ => n - (intOf i).toNat)
  case atStart => exact ⟨0, Nat.zero_le _, rfl, D1.out⟩
  case round =>
    obtain ⟨j, hj, rfl, hd⟩ := hrel
    have HD := Lib.hid hd
    clear hd D1
    by_cases hlt : j < n
    · obtain ⟨ad, rfl⟩ : ∃ ad, a0 = some ad := by
        cases a0 with
        | none => have := (HS.out.2.1 rfl).1; omega
        | some ad => exact ⟨ad, rfl⟩
      have i1 : (j : Int) < n := by omega
      have i0 : (0 : Int) ≤ (j : Int) := by omega
      have c0 := (HS.out.keep0 HD.out.grown).cellAt j (by rw [HL.out]; exact hlt)
      have hw : IntKind.i64.wrap ((j : Int) + 1) = ((j + 1 : Nat) : Int) := by rw [IntKind.wrap_i64]; omega
      have PU := Lib.hid (dq_push_id HD.out (zs.getD j 0) (by rw [cU_len]; omega) (by rw [cU_len]; omega) (by omega))
      rw [← cU_succ] at PU
      generalize zs.getD j 0 = x at *
      go_wp2_with (go_at_call 11; refine PU.out.mono ?_; clear PU; rintro e w3 ⟨rfl, D3⟩)
      go_roundw
      case rel => exact ⟨j + 1, by omega, by first | rfl | (congr 1), D3⟩
      case measure => simp [intOf]; omega
    · have i1 : ¬ (j : Int) < n := by omega
      have ej : j = n := by omega
      subst ej
      have WG := Lib.hid (show W.heap.size ≤ wr.heap.size from HD.out.grown.size)
      go_wp2_with (at_make; refine wpList_make_full _ rfl _ _ 49 rfl W.heap.size 4 i0 (.bool false) 1 Try.underlying49 HI.out hz0 hz1 .i64 .i64 _ _ j rfl rfl ?c1 ?c2 ?c3 ?c4 ?c5 ?_)
      case c1 => first | rfl | omega
      case c2 => first | rfl | omega
      case c3 => first | (rw [hz2]; omega) | omega
      case c4 => unfold maxLen; omega
      case c5 => exact WG.out
      intro w2 hown hg2
      have e8 : (madeCells #[Value.bool false] (j * 1)).toList = (List.replicate j false).map Value.bool := by rw [Nat.mul_one, made_zero, List.map_replicate]
      have hown : w2.ownsRow W.heap.size 4 1 (.slice (some ⟨wr.heap.size, 0, none⟩) j j) j ((List.replicate j false).map Value.bool) := by rw [← e8, Nat.mul_one]; first | exact hown | (rw [Nat.mul_one] at hown; exact hown)
      have B2 := Lib.hid (show OB w2 W.heap.size (.slice (some ⟨wr.heap.size, 0, none⟩) j j) (List.replicate j false) by unfold OB; rw [List.length_replicate]; exact hown)
      have D2 := Lib.hid (HD.out.keep0 hg2)
      have S0 := Lib.hid (SI.start zs j (by omega))
      obtain ⟨b, hb⟩ : ∃ b, b = wr.heap.size := ⟨_, rfl⟩
      rw [← hb] at B2 ⊢
      clear hown hg2 e8 hb HD WG
      have AA := Lib.hid (show ∀ w, Calls Try.prog 7 #[] w (RetV (.bool true) w) from awake_any)
      go_wp2
      go_loopw [7, 8, 9] (fun k l i wr => ∃ (key last : Int) (m : Nat) (T : List Int) (sn : List Bool), k = .int .i64 key ∧ l = .int .i64 last ∧ i = .int .i64 m ∧ DQ W q s (j : Int) (fun t => t) j T wr ∧ OB wr W.heap.size (.slice (some ⟨b, 0, none⟩) j j) sn ∧ SI zs j m T sn key last) (fun _ _ i _ => j - (intOf i).toNat)
      case atStart => exact ⟨0, -1, 0, _, _, rfl, rfl, rfl, D2.out, B2.out, S0.out⟩
      case round =>
        obtain ⟨key, last, m, T, sn, rfl, rfl, rfl, hd, hb, hs⟩ := hrel
        have HD := Lib.hid hd
        have HB := Lib.hid hb
        have HI := Lib.hid hs
        clear hd hb hs D2 B2 S0
        by_cases hlt2 : m < j
        · have TL := Lib.hid (show 0 < T.length by have := HI.out.len; omega)
          have TL2 := Lib.hid (show T.length ≤ 100000 by have := HI.out.len; omega)
          obtain ⟨x, t, hx, ht, htn, hsn, hz, hc, hI⟩ := HI.out.step HD.out.srt TL.out
          have PO := Lib.hid (dq_pop_id HD.out TL2.out TL.out x t hx ht)
          have HI2 := Lib.hid hI
          obtain ⟨ad, rfl⟩ : ∃ ad, a0 = some ad := by
            cases a0 with
            | none => have := (HS.out.2.1 rfl).1; omega
            | some ad => exact ⟨ad, rfl⟩
          have i1 : (m : Int) < j := by omega
          have i2 : ¬ (t : Int) < 0 := by omega
          have i3 : ¬ (j : Int) ≤ t := by omega
          have i4 : (0 : Int) ≤ (t : Int) := by omega
          have i5 : (t : Int) < j := by omega
          have hw : IntKind.i64.wrap ((m : Int) + 1) = ((m + 1 : Nat) : Int) := by rw [IntKind.wrap_i64]; omega
          have C0 := Lib.hid (fun (w : World) (g : W.grownBy w none) => (HS.out.keep0 g).cellAt t (by rw [HL.out]; exact htn))
          rw [hz] at C0
          have SL := Lib.hid HI.out.sl
          generalize kC x = kx at *
          have dk : (kx != kx) = false := by simp
          have hcs : ((m : Int) ≤ 0) ∨ ((0 : Int) < m ∧ ¬ kx < key ∧ (kx == key) = false) ∨ ((0 : Int) < m ∧ kx = key ∧ ¬ (t : Int) < last) := by
            rcases hc with e | e | e
            · exact .inl (by omega)
            · by_cases z : (0 : Int) < m
              · exact .inr (.inl ⟨z, by omega, by rw [beq_eq_false_iff_ne]; omega⟩)
              · exact .inl (by omega)
            · by_cases z : (0 : Int) < m
              · exact .inr (.inr ⟨z, e.1.symm, by omega⟩)
              · exact .inl (by omega)
          clear hx ht hz hc hI htn
          go_upto_region 17 with (go_at_call 13; refine PO.out.mono ?_; clear PO; rintro e w3 ⟨rfl, D3, K3⟩)
          have B3 := Lib.hid (HB.out.ts K3)
          have D3 := Lib.hid D3
          have c0 := B3.out.at_ SL.out.symm t (by rw [SL.out]; omega)
          rw [hsn] at c0
          have c1 := C0.out w3 D3.out.grown
          have f0 := B3.out.free SL.out.symm t
          have K4 := Lib.hid (B3.out.turn SL.out.symm (Nat.le_refl _) t (.bool true))
          have B4 := Lib.hid (B3.out.put SL.out.symm t true)
          clear K3 hsn
          rcases hcs with hA | ⟨hA, hB, hC⟩ | ⟨hA, rfl, hC⟩
          all_goals (
            go_wp2
            go_roundw
            case rel => exact ⟨_, _, m + 1, popT T, _, rfl, rfl, by first | rfl | (congr 1), D3.out.turn K4.out, B4.out, HI2.out⟩
            case measure => simp [intOf]; omega)
        · have i1 : ¬ (m : Int) < j := by omega
          have ET : T = [] := List.length_eq_zero_iff.1 (by have := HI.out.len; omega)
          rw [ET] at HD
          have PO := Lib.hid (dq_pop0 HD.out)
          clear ET
          go_upto_region 23 with (go_at_call 13; refine PO.out.mono ?_; clear PO; rintro e w3 ⟨rfl, g3⟩)
          have D3 := Lib.hid (HD.out.keep0 g3)
          have LE := dq_len D3.out
          have G3 := Lib.hid D3.out.grown
          go_wp2_with (first
            | (go_at_call 19; refine LE.mono ?_; clear LE; rintro e w4 ⟨rfl, rfl⟩)
            | (go_at_call 7; refine (AA.out _).mono ?_; rintro e w8 ⟨rfl, g8⟩))
          go_ret
          exact ⟨rfl, gb_trans G3.out g8⟩
end Go.Proofs.Ytmldoeigemippaa
