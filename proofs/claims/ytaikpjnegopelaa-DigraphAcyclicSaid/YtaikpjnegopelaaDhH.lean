/- The walk of components. -/
import Derived.Test.YtaikpjnegopelaaDhF
import Derived.Test.YtaikpjnegopelaaDhG
namespace Go.Proofs.Ytaikpjnegopelaa
open Go.RowKit
set_option linter.unusedVariables false

theorem Fr.isb {w w2 : World} {hb b : Nat} {r : Option Nat} {t : TypeId} {cs : Array Value} (h : Fr w w2 hb r) (o : IsB w b t cs) (h1 : b ≠ hb) (h2 : r ≠ some b) : IsB w2 b t cs := by
  have lt := o.lt
  unfold IsB at o ⊢
  rw [h.block b lt h1 h2]
  exact o
set_option maxRecDepth 100000 in
set_option maxHeartbeats 1000000 in
theorem cmark_any (w : World) (db dc cb rb n base : Nat) (r : Int) (S : List Int) (v x : Nat) (hrow : NL w base (.slice (some ⟨db, 0, none⟩) n dc) S) (hl : n = S.length) (hvar : IsB w cb 31 #[.slice (some ⟨db, 0, none⟩) n dc]) (hrv : IsB w rb 3 #[.int .i64 r]) (hx : x < n) :
    Calls Try.prog 50 #[.int .i64 v, .int .i64 x, .pointer (some ⟨cb, 0, none⟩), .pointer (some ⟨rb, 0, none⟩)] w fun e w2 => e = .returned (.bool (decide (S.getD x 0 = -1))) ∧ w.grownBy w2 (some db) ∧ NL w2 base (.slice (some ⟨db, 0, none⟩) n dc) (if S.getD x 0 = -1 then S.set x r else S) := by
  have cc : w.cell? ⟨cb, 0, none⟩ = some (.slice (some ⟨db, 0, none⟩) n dc) := hvar.cell 0
  have c2 : w.cell? ⟨rb, 0, none⟩ = some (.int .i64 r) := hrv.cell 0
  have cx := hrow.at_ hl x (by rw [← hl]; exact hx)
  have fx := hrow.free hl x
  have ix : (x : Int) < n := by omega
  have HR := Lib.hid hrow
  by_cases hm : S.getD x 0 = -1
  · have HP := Lib.hid (hrow.put hl x r)
    rw [decide_eq_true hm, if_pos hm]
    rw [hm] at cx
    clear hrow hm
    go_enter Try.func50, Try.ntmps50
    go_wp2
    go_ret
    exact ⟨rfl, gb_set _ _ _ _, HP.out⟩
  · rw [decide_eq_false hm, if_neg hm]
    obtain ⟨y, hy⟩ : ∃ y, y = S.getD x 0 := ⟨_, rfl⟩
    rw [← hy] at cx hm
    have d1 : (y == -1) = false := by rw [beq_eq_false_iff_ne]; exact hm
    have d2 : (y != -1) = true := by simp [bne, d1]
    clear hrow hm hy
    go_enter Try.func50, Try.ntmps50
    go_wp2
    go_ret
    exact ⟨rfl, gb_refl _ _, HR.out⟩
structure CW (w0 w : World) (cb gb n d1 : Nat) (a1 : Option Addr) (Vs : List Value) (rows : List (List Int)) (VO : Value) (O C : List Int) : Prop where
  row : NL w w0.heap.size (.slice a1 n d1) C
  len : n = C.length
  clo : ∀ q, (Value.slice a1 n d1).ownBlock = some q → q < cb
  var : IsB w cb 31 #[.slice a1 n d1]
  blk : IsB w gb 31 Vs.toArray
  cg : cb < gb
  own : ∀ x, x < n → NL w (gb + 1) (Vs.getD x nilV) (rows.getD x [])
  nV : Vs.length = n
  ord : NL w (gb + 1) VO O
  grown : w0.grownBy w none
  low : w0.heap.size ≤ cb
theorem CW.keep {w0 w w2 : World} {cb gb n d1 : Nat} {a1 : Option Addr} {Vs : List Value} {rows : List (List Int)} {VO : Value} {O C : List Int} (h : CW w0 w cb gb n d1 a1 Vs rows VO O C) (k : w.grownBy w2 none) : CW w0 w2 cb gb n d1 a1 Vs rows VO O C :=
  ⟨h.row.keep0 k, h.len, h.clo, h.var.keep0 k, h.blk.keep0 k, h.cg, fun x hx => (h.own x hx).keep0 k, h.nV, h.ord.keep0 k, gb_trans h.grown k, h.low⟩
theorem CW.fr {w0 w w2 : World} {cb gb n d1 db : Nat} {Vs : List Value} {rows : List (List Int)} {VO : Value} {O C C2 : List Int} (h : CW w0 w cb gb n d1 (some ⟨db, 0, none⟩) Vs rows VO O C) (f : Fr w w2 db none) (r : NL w2 w0.heap.size (.slice (some ⟨db, 0, none⟩) n d1) C2) (hl : n = C2.length) : CW w0 w2 cb gb n d1 (some ⟨db, 0, none⟩) Vs rows VO O C2 := by
  have h1 := h.clo db rfl
  have h2 := h.cg
  have h3 := (nl_lt h.row (q := db) rfl).1
  refine ⟨r, hl, h.clo, f.isb h.var (by omega) (by simp), f.isb h.blk (by omega) (by simp), h.cg, fun x hx => f.nl (h.own x hx) fun q e => ⟨by have := (nl_lt (h.own x hx) e).1; omega, by simp⟩, h.nV, f.nl h.ord fun q e => ⟨by have := (nl_lt h.ord e).1; omega, by simp⟩, ?_, h.low⟩
  refine ⟨f.os.trans h.grown.os, f.tape.trans h.grown.tape, f.output.trans h.grown.output, Nat.le_trans h.grown.size f.size, fun i hi _ => ?_⟩
  rw [f.block i (Nat.lt_of_lt_of_le hi h.grown.size) (by omega) (by simp)]
  exact h.grown.block i hi (by simp)

set_option maxRecDepth 100000 in
set_option maxHeartbeats 4000000 in
theorem comp_any (w : World) (a : Option Addr) (c : Nat) (g : List (List Int)) (h : SlG w a g.length c g) (hn : g.length ≤ 1000) (hb : ∀ v, v < g.length → (g.getD v []).length ≤ 1000) :
    Calls Try.prog 48 #[.slice a g.length c] w fun e w' => ∃ (V : Value) (O : List Nat) (t : Nat → Nat) (C : List Int), e = .returned V ∧ NL w' w.heap.size V C ∧ PO g O t ∧ KO g O 0 C ∧ w.grownBy w' none := by
  have HH := Lib.hid h
  have HB := Lib.hid hb
  have hmf : ∀ (fn : Fn) (first cap : Array Value) (w : World), (Instr.makeFunc fn first cap).run Try.prog w = .ok (.func fn first cap) w := fun _ _ _ _ => rfl
  have HF := Lib.hid (filled_any w g.length (-1) (by omega))
  have KS := Lib.hid (fun O => KO.start g O)
  have TL := Lib.hid (tab_len g.length fun _ => (-1 : Int))
  obtain ⟨T, hT⟩ : ∃ T, T = tab g.length fun _ => (-1 : Int) := ⟨_, rfl⟩
  rw [← hT] at HF KS TL
  clear h hb hT
  go_enter Try.func48, Try.ntmps48
  go_wp2_with fail
  refine HF.out.mono ?_
  rintro e w1 ⟨V, rfl, o1, g1⟩
  obtain ⟨a1, d1, hV⟩ := o1.shape
  rw [TL.out] at hV
  subst hV
  have O1 := Lib.hid o1
  have G1 := Lib.hid g1
  have B2 := Lib.hid (IsB.new w1 31 #[.slice a1 g.length d1])
  have E2 := Lib.hid (gb_alloc w1 (.cells #[.slice a1 g.length d1] 31) none)
  have S1 := Lib.hid g1.size
  have Q1 := Lib.hid (fun q e => (nl_lt o1 e).2 : ∀ q, (Value.slice a1 g.length d1).ownBlock = some q → q < w1.heap.size)
  clear o1 g1 HF
  go_wp2_with fail
  refine (rev_rr _ a g.length c g (HH.out.keep0 (gb_trans G1.out E2.out)) (by omega)).mono ?_
  rintro e w3 ⟨gb, Vs, rfl, rr⟩
  have R3 := Lib.hid rr
  clear rr
  go_wp2_with fail
  refine (post_any w3 a c g (HH.out.keep0 (gb_trans (gb_trans G1.out E2.out) R3.out.grown)) hn HB.out).mono ?_
  rintro e w4 ⟨VO, O, t, rfl, o4, po, g4⟩
  have W4 := Lib.hid (show CW w w4 w1.heap.size gb g.length d1 a1 Vs (revG g) VO (iN O) T from
    ⟨((O1.out.keep0 E2.out).keep0 R3.out.grown).keep0 g4, TL.out.symm, Q1.out, (B2.out.keep0 R3.out.grown).keep0 g4, R3.out.blk.keep0 g4, by
      have := R3.out.low
      have := B2.out.lt
      omega, fun x hx => (R3.out.own x hx).keep0 g4, R3.out.nV, own_low o4 R3.out.blk.lt, gb_trans (gb_trans (gb_trans G1.out E2.out) R3.out.grown) g4, S1.out⟩)
  have PP := Lib.hid po
  have K4 := Lib.hid (KS.out O)
  obtain ⟨oa, oc, hsh⟩ := o4.shape
  rw [iN_len] at hsh
  subst hsh
  have hOl : O.length ≤ g.length := nodup_len O g.length po.nd po.node
  obtain ⟨cb, hcb⟩ : ∃ cb, cb = w1.heap.size := ⟨_, rfl⟩
  rw [← hcb] at W4
  clear o4 po g4 R3 O1 G1 B2 E2 S1 Q1 KS
  go_wp2_with fail
  rw [← hcb]
  clear hcb
  go_loopw [6] (fun i wr => ∃ (j : Nat) (C : List Int), j ≤ O.length ∧ i = .int .i64 ((j : Int) - 1) ∧ CW w wr cb gb g.length d1 a1 Vs (revG g) (.slice oa O.length oc) (iN O) C ∧ KO g O j C) (fun i _ => (intOf i + 1).toNat)
  case atStart => exact ⟨O.length, _, Nat.le_refl _, rfl, W4.out, K4.out⟩
  case round =>
    obtain ⟨j, C, hj, rfl, q1, q2⟩ := hrel
    clear W4 K4
    have W1 := Lib.hid q1
    have K1 := Lib.hid q2
    clear q1 q2
    cases j with
    | zero =>
      have c3 : wr.cell? ⟨cb, 0, none⟩ = some (.slice a1 g.length d1) := W1.out.var.cell 0
      go_wp2
      go_ret
      exact ⟨_, O, t, C, rfl, W1.out.row, PP.out, K1.out, W1.out.grown⟩
    | succ j =>
      obtain ⟨z, hz⟩ : ∃ z : Int, z = ((j + 1 : Nat) : Int) - 1 := ⟨_, rfl⟩
      rw [← hz]
      obtain rfl : z = (j : Int) := by omega
      clear hz
      have hjO : j < O.length := by omega
      have ij : (j : Int) < O.length := by omega
      obtain ⟨r, hr⟩ : ∃ r, O[j]? = some r := ⟨O[j], by simp⟩
      have hrn := PP.out.node r (List.mem_of_getElem? hr)
      have irn : (r : Int) < g.length := by omega
      have RR1 := Lib.hid hr
      obtain ⟨oh, od, hh⟩ := W1.out.ord.headn (iN_len O).symm (by omega)
      cases hh
      have co := W1.out.ord.at_ (iN_len O).symm j (by rw [iN_len]; exact hjO)
      have e0 : (iN O).getD j 0 = (r : Int) := by
        rw [List.getD_eq_getElem?_getD]
        unfold iN
        rw [List.getElem?_map, hr]
        rfl
      rw [e0] at co
      obtain ⟨db, dd, hh⟩ := W1.out.row.headn W1.out.len (by omega)
      cases hh
      have W2 := Lib.hid (W1.out.keep (gb_alloc wr (.cells #[.int .i64 (r : Int)] 3) none))
      have V2 := Lib.hid (IsB.new wr 3 #[.int .i64 (r : Int)])
      have c3 : (wr.alloc (.cells #[.int .i64 (r : Int)] 3)).cell? ⟨cb, 0, none⟩ = some (.slice (some ⟨db, 0, none⟩) g.length d1) := W2.out.var.cell 0
      have c4 : (wr.alloc (.cells #[.int .i64 (r : Int)] 3)).cell? ⟨wr.heap.size, 0, none⟩ = some (.int .i64 r) := V2.out.cell 0
      have c5 := W2.out.row.at_ W1.out.len r (by rw [← W1.out.len]; exact hrn)
      have f5 := W2.out.row.free W1.out.len r
      have hcd : cb ≠ db := by have := W1.out.clo db rfl; omega
      clear e0 hr
      by_cases hc : C.getD r 0 = -1
      · have K2 := Lib.hid (K1.out.step PP.out RR1.out hc)
        rw [hc] at c5
        have hrl : r < C.length := by rw [← W1.out.len]; exact hrn
        have hcnt := cnt_set C r (r : Int) hrl hc (by omega)
        have hcl := List.count_le_length (a := (-1 : Int)) (l := C)
        rw [← W1.out.len] at hcl
        have hS0 : (C.set r (r : Int)).getD r 0 = r := getD_set_on _ _ _ hrl
        have lw : wr.heap.size < (wr.alloc (.cells #[.int .i64 (r : Int)] 3)).heap.size := V2.out.lt
        have hdb : db < wr.heap.size := (nl_lt W1.out.row (q := db) rfl).2
        obtain ⟨ws, hws⟩ : ∃ ws, ws = (wr.alloc (.cells #[.int .i64 (r : Int)] 3)).setCell ⟨db, r, none⟩ (.int .i64 (r : Int)) := ⟨_, rfl⟩
        have hsz : ws.heap.size = (wr.alloc (.cells #[.int .i64 (r : Int)] 3)).heap.size := by rw [hws]; simp [World.setCell]
        have F0 : Fr (wr.alloc (.cells #[.int .i64 (r : Int)] 3)) ws db none := by rw [hws]; exact (Fr.refl _ _ _).step (gb_set _ _ _ _) (by intro q e; injection e with e; exact .inl e.symm)
        have W3 := Lib.hid (W2.out.fr F0 (C2 := C.set r (r : Int)) (by rw [hws]; exact W2.out.row.put W1.out.len r (r : Int)) (by rw [List.length_set]; exact W1.out.len))
        have V3 := Lib.hid (F0.isb V2.out (by omega) (by simp))
        have HS := Lib.hid (search_rr ws ⟨gb, 0, none⟩ g.length (revG g) (by rw [revG_len]; omega) r (-1) 50 #[.pointer (some ⟨cb, 0, none⟩), .pointer (some ⟨wr.heap.size, 0, none⟩)] (fun _ _ => (r : Int)) (C.set r (r : Int))
          (fun S w' => Fr ws w' db none ∧ NL w' w.heap.size (.slice (some ⟨db, 0, none⟩) g.length d1) S ∧ g.length = S.length) db (by rw [revG_len]; exact hrn) (by rw [revG_len, List.length_set]; exact W1.out.len.symm) (by rw [hS0]; omega) (by rw [revG_len]; omega)
          ⟨Fr.refl _ _ _, W3.out.row, W3.out.len⟩
          ⟨fun v hv => by
            rw [revG_len] at hv
            have ow := W3.out.own v hv
            obtain ⟨A, L, hA⟩ := ow.shape
            refine ⟨A, L, ?_, fun S w' hj => ?_⟩
            · rw [revG_at g v hv]; have := revUp_len g v g.length; omega
            · have hb2 : IsB w' gb 31 Vs.toArray := hj.1.isb W3.out.blk (by have := W3.out.cg; have := W3.out.clo db rfl; omega) (by simp)
              have ow2 := hj.1.nl ow (fun q e => ⟨by have := (nl_lt ow e).1; have := W3.out.cg; have := W3.out.clo db rfl; omega, by simp⟩)
              rw [hA] at ow2
              refine ⟨?_, ow2.slr rfl⟩
              rw [addr0, hb2.cell v]
              have hq : Vs.toArray[v]? = some (Vs.getD v nilV) := by simp [W3.out.nV, hv]
              rw [hq, hA], fun S u1 u2 row hj k hq => ⟨hj.1.step k (fun q e => .inr (.inr (hq q e))), World.ownsRow.kept hj.2.1 k (blk_ne fun q e1 e2 => by
              have e3 : db = q := Option.some.inj e1
              have := hq q e2
              omega), hj.2.2⟩, fun _ _ => by rfl, by omega,
            fun S u1 v x hv hx hl hv1 hj => ⟨fun _ => by omega, (cmark_any u1 db d1 cb wr.heap.size g.length w.heap.size r S v x hj.2.1 hj.2.2 (hj.1.isb W3.out.var (by have := W3.out.clo db rfl; omega) (by simp)) (hj.1.isb V3.out (by omega) (by simp)) (by rw [revG_len] at hx; exact hx)).mono (by
              rintro e u2 ⟨rfl, k1, k2⟩
              refine ⟨rfl, k1, hj.1.step k1 (fun q e => by injection e with e; exact .inl e.symm), k2, ?_⟩
              split
              · rw [List.length_set]; exact hj.2.2
              · exact hj.2.2)⟩⟩)
        rw [World.setCell_alloc_past _ _ _ _ hdb] at hws
        rw [hws, revG_len] at HS
        clear hc hcnt hcl F0 V3
        go_wp2_with fail
        refine HS.out.mono ?_
        rintro e w6 ⟨rfl, f6, n6, l6⟩
        rw [← hws] at f6
        have W6 := Lib.hid (W3.out.fr f6 n6 l6)
        rw [revG_len] at K2
        clear f6 n6 l6 HS hws
        go_wp2
        go_roundw
        case rel => exact ⟨j, _, by omega, by go_num, W6.out, K2.out⟩
        case measure => (simp [intOf] <;> try omega)
      · have K2 := Lib.hid (K1.out.skip RR1.out hc)
        obtain ⟨y, hy⟩ : ∃ y, y = C.getD r 0 := ⟨_, rfl⟩
        rw [← hy] at c5 hc
        have dq1 : (y == -1) = false := by rw [beq_eq_false_iff_ne]; exact hc
        have dq2 : (y != -1) = true := by simp [bne, dq1]
        clear hy hc
        go_wp2
        go_roundw
        case rel => exact ⟨j, C, by omega, by go_num, W2.out, K2.out⟩
        case measure => (simp [intOf] <;> try omega)
end Go.Proofs.Ytaikpjnegopelaa
