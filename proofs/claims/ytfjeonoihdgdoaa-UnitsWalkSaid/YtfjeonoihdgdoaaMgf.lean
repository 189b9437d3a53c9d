/- The texts UoC, UoD, UoE in one; no condition. -/
import Derived.Test.YtfjeonoihdgdoaaMgh
import Derived.Test.YtfjeonoihdgdoaaUoB
import Derived.Test.YtfjeonoihdgdoaaUnJ
import Derived.Test.YtfjeonoihdgdoaaMgg
import Derived.Deep.RegionHeld
section
/- What patchbaylaw22 calls a small program; no condition but that its conditions fit the memory. -/
namespace Go.Proofs.Ytfjeonoihdgdoaa
open Go.RowKit
set_option linter.unusedVariables false
def Sm22 (X : Tb.PX) (T : CT) : Prop := T.cnt ≤ 60 ∧ (∀ x ∈ T.pre, x.N.length ≤ 1219) ∧ X.tn ≤ 30
set_option maxRecDepth 100000 in
set_option maxHeartbeats 40000000 in
theorem small22_any (w : World) (X : Tb.PX) (P : Tb.Pg) (T : CT) (hp : Tb.SP w X P) (hS : ST w ⟨X.ca, X.cn, X.cc⟩ T) (hcl : ∀ x ∈ T.pre, x.N.length ≤ 5864062014634) : Calls Try.prog 23 #[.agg #[.string X.nm, .slice X.ha X.hn X.hc, .slice X.ma X.mn X.mc, .slice X.ra X.rn X.rc, .slice X.aa X.an X.ac, .slice X.ta X.tn X.tc, .slice X.sa X.sn X.sc, .slice X.ca X.cn X.cc, .slice X.da X.dn X.dc]] w (Tb.RetB (Sm22 X T) w) := by
  have HP := Lib.hid hp
  have GZ := Lib.hid (gb_alloc w (.cells #[.string X.nm, .slice X.ha X.hn X.hc, .slice X.ma X.mn X.mc, .slice X.ra X.rn X.rc, .slice X.aa X.an X.ac, .slice X.ta X.tn X.tc, .slice X.sa X.sn X.sc, .slice X.ca X.cn X.cc, .slice X.da X.dn X.dc] 31) none)
  have B1 := IsB.new w 31 #[.string X.nm, .slice X.ha X.hn X.hc, .slice X.ma X.mn X.mc, .slice X.ra X.rn X.rc, .slice X.aa X.an X.ac, .slice X.ta X.tn X.tc, .slice X.sa X.sn X.sc, .slice X.ca X.cn X.cc, .slice X.da X.dn X.dc]
  have S16 := Lib.hid (Tb.small16_any (w.alloc (.cells #[.string X.nm, .slice X.ha X.hn X.hc, .slice X.ma X.mn X.mc, .slice X.ra X.rn X.rc, .slice X.aa X.an X.ac, .slice X.ta X.tn X.tc, .slice X.sa X.sn X.sc, .slice X.ca X.cn X.cc, .slice X.da X.dn X.dc] 31)) X P (hp.keep0 GZ.out))
  have BK := Lib.hid (fun (w3 : World) (g : (w.alloc (.cells #[.string X.nm, .slice X.ha X.hn X.hc, .slice X.ma X.mn X.mc, .slice X.ra X.rn X.rc, .slice X.aa X.an X.ac, .slice X.ta X.tn X.tc, .slice X.sa X.sn X.sc, .slice X.ca X.cn X.cc, .slice X.da X.dn X.dc] 31)).grownBy w3 none) => blocks_rec (T.cnt + 1) T ⟨X.ca, X.cn, X.cc⟩ 0 w3 (by omega) (by omega) hcl ((hS.keep0 GZ.out).keep0 g))
  simp only [show ((0 : Nat) : Int) = 0 from rfl] at BK
  unfold Tb.RetB at S16
  clear hp hS hcl
  go_enter Try.func23, Try.ntmps23
  go_upto_region 1 with fail
  generalize w.alloc (.cells #[.string X.nm, .slice X.ha X.hn X.hc, .slice X.ma X.mn X.mc, .slice X.ra X.rn X.rc, .slice X.aa X.an X.ac, .slice X.ta X.tn X.tc, .slice X.sa X.sn X.sc, .slice X.ca X.cn X.cc, .slice X.da X.dn X.dc] 31) = w2 at *
  obtain ⟨bx, hbx⟩ : ∃ b, b = w.heap.size := ⟨_, rfl⟩
  rw [← hbx] at B1 ⊢
  clear hbx
  replace HP := Lib.hid (HP.out.keep0 GZ.out)
  have B1' := Lib.hid B1
  have c0 := B1.cell 0
  have c1 := B1.cell 1
  have c2 := B1.cell 2
  have c3 := B1.cell 3
  have c4 := B1.cell 4
  have c5 := B1.cell 5
  have c6 := B1.cell 6
  have c7 := B1.cell 7
  have c8 := B1.cell 8
  clear B1
  dsimp at c0 c1 c2 c3 c4 c5 c6 c7 c8
  go_wp2_with fail
  refine S16.out.mono ?_
  rintro e w3 ⟨b, rfl, g3, -⟩
  have G3 := Lib.hid g3
  replace B1' := Lib.hid (B1'.out.keep0 g3)
  replace HP := Lib.hid (HP.out.keep0 g3)
  replace GZ := Lib.hid (gb_trans GZ.out g3)
  clear g3 c0 c1 c2 c3 c4 c5 c6 c7 c8 S16
  have c5 := B1'.out.cell 5
  have c6 := B1'.out.cell 6
  have c7 := B1'.out.cell 7
  have c8 := B1'.out.cell 8
  dsimp at c5 c6 c7 c8
  cases b with
  | false =>
    go_wp2
    go_ret
    exact ⟨false, rfl, GZ.out, fun h => by cases h⟩
  | true =>
  by_cases n1 : (30 : Int) < X.tn
  · go_wp2
    go_ret
    exact ⟨false, rfl, GZ.out, fun h => by cases h⟩
  by_cases n2 : (30 : Int) < X.sn
  · go_wp2
    go_ret
    exact ⟨false, rfl, GZ.out, fun h => by cases h⟩
  by_cases n3 : (30 : Int) < X.dn
  · go_wp2
    go_ret
    exact ⟨false, rfl, GZ.out, fun h => by cases h⟩
  go_wp2_with fail
  refine (BK.out _ G3.out).mono ?_
  rintro e w4 ⟨⟨v, rfl, bk⟩, g4⟩
  have BT := Lib.hid bk
  replace B1' := Lib.hid (B1'.out.keep0 g4)
  replace HP := Lib.hid (HP.out.keep0 g4)
  replace GZ := Lib.hid (gb_trans GZ.out g4)
  clear g4 c5 c6 c7 c8 bk BK G3
  have c5 := B1'.out.cell 5
  have c6 := B1'.out.cell 6
  dsimp at c5 c6
  by_cases n4 : (60 : Int) < v
  · go_wp2
    go_ret
    exact ⟨false, rfl, GZ.out, fun h => by cases h⟩
  have TN := Lib.hid (show X.tn ≤ 30 by omega)
  have OK := Lib.hid (show Sm22 X T from by
    obtain ⟨r1, r2⟩ := BT.out.ok (by omega)
    exact ⟨by omega, r2, TN.out⟩)
  clear BT
  generalize Sm22 X T = SQ at *
  go_wp2
  go_loopw [3] (fun s wr => ∃ k : Nat, k ≤ X.tn ∧ s = .int .i64 k ∧ wr = w4) (fun s _ => X.tn - (intOf s).toNat)
  case atStart => exact ⟨0, Nat.zero_le _, rfl, rfl⟩
  case round =>
    obtain ⟨k, hk, rfl, rfl⟩ := hrel
    by_cases hlt : k < X.tn
    · obtain ⟨ad, ha⟩ := HP.out.t.some (by omega)
      obtain ⟨_, ⟨ka, kn, kc, t1, _⟩, ⟨aa, an, ac, t2, _⟩, _, ⟨ra, rn, rc, t4, _⟩, _⟩ := HP.out.t.cells ad ha k hlt
      rw [ha] at c5
      have i1 : (k : Int) < X.tn := by omega
      by_cases q1 : (20 : Int) < kn
      · go_wp2
        go_ret
        exact ⟨false, rfl, GZ.out, fun h => by cases h⟩
      by_cases q2 : (40 : Int) < an
      · go_wp2
        go_ret
        exact ⟨false, rfl, GZ.out, fun h => by cases h⟩
      by_cases q3 : (40 : Int) < rn
      · go_wp2
        go_ret
        exact ⟨false, rfl, GZ.out, fun h => by cases h⟩
      go_wp2
      go_roundw
      case rel => first | exact ⟨k + 1, by omega, by go_num, trivial⟩ | exact ⟨k + 1, by omega, by go_num⟩
      case measure => simp [intOf]; omega
    · have i1 : ¬ (k : Int) < X.tn := by omega
      go_wp2
      go_loopw [4] (fun s wq => ∃ j : Nat, j ≤ X.sn ∧ s = .int .i64 j ∧ wq = wr) (fun s _ => X.sn - (intOf s).toNat)
      case atStart => exact ⟨0, Nat.zero_le _, rfl, rfl⟩
      case round =>
        obtain ⟨j, hj, rfl, rfl⟩ := hrel
        by_cases hjt : j < X.sn
        · obtain ⟨bd, hb⟩ := HP.out.s.some (by omega)
          obtain ⟨_, ⟨ea, en, ec, s1, _⟩, _, _, _, ⟨sa, sn, sc, s5, _⟩, _⟩ := HP.out.s.cells bd hb j hjt
          rw [hb] at c6
          have i2 : (j : Int) < X.sn := by omega
          by_cases q3 : (20 : Int) < en
          · go_wp2
            go_ret
            exact ⟨false, rfl, GZ.out, fun h => by cases h⟩
          by_cases q4 : (20 : Int) < sn
          · go_wp2
            go_ret
            exact ⟨false, rfl, GZ.out, fun h => by cases h⟩
          go_wp2
          go_roundw
          case rel => first | exact ⟨j + 1, by omega, by go_num, trivial⟩ | exact ⟨j + 1, by omega, by go_num⟩
          case measure => simp [intOf]; omega
        · have i2 : ¬ (j : Int) < X.sn := by omega
          go_wp2
          go_ret
          exact ⟨true, rfl, GZ.out, fun _ => OK.out⟩
end Go.Proofs.Ytfjeonoihdgdoaa
end
section
/- Units: the law's visit: which units are reached; no condition but the sizes. -/
namespace Go.Proofs.Ytfjeonoihdgdoaa
open Go.RowKit
set_option linter.unusedVariables false
/-- Which units of a block are reached, the first of which has number n. -/
def visR (B : List Bool) : CT → Nat → Bool → List Bool
  | .nil, _, _ => []
  | .cons k t c N s th u el r, n, on => on :: (visR B th (n + 1) (on && bitO B (n : Int)) ++ (visR B el (n + 1 + th.cnt) (on && !bitO B (n : Int)) ++ visR B r (n + 1 + th.cnt + el.cnt) on))
theorem visR_ct (B : List Bool) (x : CV) (r : CT) (n : Nat) (on : Bool) : visR B (x.ct r) n on = on :: (visR B x.th (n + 1) (on && bitO B (n : Int)) ++ (visR B x.el (n + 1 + x.th.cnt) (on && !bitO B (n : Int)) ++ visR B r (n + 1 + x.th.cnt + x.el.cnt) on)) := rfl
theorem okG_more (G : List Gd) (B : List Bool) (n : Int) (b : Bool) : okG (G ++ [(n, b)]) B = (okG G B && (bitO B n == b)) := by
  unfold okG
  rw [List.any_append]
  simp only [List.any_cons, List.any_nil, Bool.or_false, Bool.not_or]
  cases bitO B n <;> cases b <;> rfl
/-- A unit executes just if its guards are fulfilled: those that are reached. -/
theorem vis_bld (B : List Bool) : ∀ (T : CT) (n : Nat) (G : List Gd), (bldT T n G).map (fun q => okG q.2.2 B) = visR B T n (okG G B) := by
  intro T
  induction T with
  | nil => intro n G; rfl
  | cons k t c N s th u el r i1 i2 i3 =>
    intro n G
    rw [bldT, visR]
    simp only [List.map_cons, List.map_append]
    rw [i1, i2, i3, okG_more, okG_more]
    cases bitO B (n : Int) <;> rfl
theorem visR_len (B : List Bool) : ∀ (T : CT) (n : Nat) (on : Bool), (visR B T n on).length = T.cnt := by
  intro T
  induction T with
  | nil => intro n on; rfl
  | cons k t c N s th u el r i1 i2 i3 =>
    intro n on
    have hc : (CT.cons k t c N s th u el r).cnt = 1 + th.cnt + el.cnt + r.cnt := CV.cnt_ct ⟨k, t, c, N, s, th, u, el⟩ r
    rw [visR, List.length_cons, List.length_append, List.length_append, i1, i2, i3, hc]
    omega
def BR (w : World) (base : Nat) (V : Value) (L : List Bool) : Prop := w.ownsRow base 4 1 V L.length (L.map Value.bool)
theorem br_shape {w : World} {base : Nat} {V : Value} {L : List Bool} (h : w.ownsRow base 4 1 V L.length (L.map Value.bool)) : ∃ a n c, V = .slice a n c := by
  obtain ⟨a, c, e⟩ := own_shape h
  exact ⟨a, _, c, e⟩
def OwV (base : Nat) (k : Nat) : Obj → Prop
  | .cells _ t _ => base ≤ k ∧ t = 4
  | _ => False
theorem infoBool : (Try.prog.info? 4).map (fun i => (i.zero, i.size, i.bytes)) = some (some (.bool false), 1, 1) := by kernel_rfl
theorem pushBool {w : World} {ops : Array Oper} {rest : List Oper} {o : Oper} {a : Act} {Q : Exit → Act → World → Prop} (hgd : o.guard = none) (s x : Operand)
    (ho : o.op = .call { callee := .builtin .append, args := #[s, x], argTypes := #[33, 33] }) (base : Nat) (V : Value) (M : List Bool) (hs : a.eval s = V) (hown : BR w base V M)
    (ad : Addr) (c : Nat) (T : Bool) (hx : a.eval x = .slice (some ad) 1 c) (hT : ∀ j u, ([.bool T] : List Value)[j]? = some u → w.cell? (ad.add j) = some u) (hlen : M.length ≤ 1000000) (hbase : base ≤ w.heap.size)
    (h : ∀ V' w', BR w' base V' (M ++ [T]) → w.grownBy w' V.ownBlock → wpList Try.prog ops Q rest (a.put o.dst V') w') : wpList Try.prog ops Q (o :: rest) a w := by
  obtain ⟨i0, hi, hz0, hz1, hz2⟩ := info_parts infoBool
  refine wpList_append_own w hgd s x 33 ho base 4 i0 _ 1 1 Try.underlying33 hi hz0 hz1 hz2 rfl (by decide) V M.length (M.map Value.bool) hs hown ad 1 c [.bool T] hx rfl hT (one_one _ rfl) (by unfold maxLen; omega) (by omega) hbase ?_
  intro V' w' h1 h2 h3
  refine h V' w' ?_ h2
  unfold BR
  rw [List.map_append, List.length_append]
  simpa using h1
theorem kt_brow {w w2 : World} {base : Nat} {V : Value} {M : List Bool} (h : BR w base V M) (g : w.grownBy w2 V.ownBlock) : Kt (OwV base) w w2 := by
  rcases h.2 with ⟨rfl, _⟩ | ⟨g0, cap, cur, rfl, hb, hg, _⟩
  · exact Kt.of_gb g
  · exact Kt.of_row (g := g0) g (fun o ho => by rw [hg] at ho; cases ho; exact ⟨hb, rfl⟩)
theorem kc_v {w0 w w2 : World} {base : Nat} (h : Kc w0 w) (k : Kt (OwV base) w w2) (h1 : w0.heap.size ≤ base) : Kc w0 w2 :=
  kc_kt h k (fun k cs t m hk q => by have := q.1; omega)
theorem SB.keepc {w w2 : World} {a : Option Addr} {n c : Nat} {L : List Bool} (h : SB w a n c L) (k : Kc w w2) : SB w2 a n c L :=
  ⟨h.len, h.nil, h.cap, fun ad e j hj => k _ _ (h.cells ad e j hj)⟩
def RetVi (base : Nat) (L : List Bool) (n : Nat) (w : World) (e : Ending) (w' : World) : Prop := ∃ V', e = .returned (.tuple #[V', .int .i64 (n : Int)]) ∧ BR w' base V' L ∧ Kt (OwV base) w w'
set_option maxRecDepth 100000 in
set_option maxHeartbeats 16000000 in
theorem visit_rec (w0 : World) (base : Nat) (hb0 : w0.heap.size ≤ base) (bs : Sl) (B : List Bool) (hB : SB w0 bs.a bs.n bs.c B) : ∀ (m : Nat) (T : CT) (s : Sl) (n : Nat) (on : Bool) (L : List Bool) (V : Value) (w : World),
    T.cnt < m → L.length + T.cnt ≤ 1000 → n + T.cnt ≤ 1000 → ST w0 s T → Kc w0 w → base ≤ w.heap.size → BR w base V L →
    Calls Try.prog 33 #[V, .slice s.a s.n s.c, .slice bs.a bs.n bs.c, .int .i64 (n : Int), .bool on] w (RetVi base (L ++ visR B T n on) (n + T.cnt) w) := by
  intro m
  induction m with
  | zero => intro T s n on L V w h; omega
  | succ m ih =>
    intro T s n on L V w hm hl hn hS hk hbs hV
    obtain ⟨sa, sn, sc⟩ := s
    obtain ⟨ba, bn, bc⟩ := bs
    have IH := Lib.hid ih
    have HM := Lib.hid hm
    have HL := Lib.hid hl
    have HN := Lib.hid hn
    have HS := Lib.hid hS
    have HK := Lib.hid hk
    have HB := Lib.hid hB
    have HBB := Lib.hid hb0
    have HBS := Lib.hid hbs
    have SL := Lib.hid hS.len
    have BL := Lib.hid hB.len
    have SN1 := Lib.hid (show sn ≤ 1000 by have := hS.len; have := CT.len_cnt T; dsimp only at *; omega)
    have scap : sn ≤ sc := hS.cap
    have bcap : bn ≤ bc := hB.cap
    obtain ⟨a0, k0, c0, hv⟩ := br_shape hV
    subst hv
    have HV := Lib.hid hV
    clear ih hm hl hn hS hk hB hb0 hbs hV
    dsimp only at *
    go_enter Try.func33, Try.ntmps33
    go_wp2
    go_loopw [0, 3, 12] (fun s0 s3 s12 wr => ∃ (j g : Nat) (M : List Bool), s12 = .int .i64 (j : Int) ∧ s3 = .int .i64 ((n + g : Nat) : Int) ∧ j ≤ sn ∧ g + (T.drop j).cnt = T.cnt ∧ M.length = g ∧ M ++ visR B (T.drop j) (n + g) on = visR B T n on ∧ BR wr base s0 (L ++ M) ∧ Kt (OwV base) w wr) (fun _ _ s12 _ => sn - (intOf s12).toNat)
    case atStart => exact ⟨0, 0, [], rfl, rfl, Nat.zero_le _, by rw [CT.drop_zero]; omega, rfl, by rw [CT.drop_zero]; rfl, by rw [List.append_nil]; exact HV.out, Kt.refl _ _⟩
    case round =>
      obtain ⟨j, g, M, rfl, rfl, hj, hg, hM, hvis, hv, hkt⟩ := hrel
      have HVIS := Lib.hid hvis
      have HM2 := Lib.hid hM
      have HG := Lib.hid hg
      have HKT := Lib.hid hkt
      obtain ⟨a4, k4, c4v, hv4⟩ := br_shape hv
      subst hv4
      have V4 := Lib.hid hv
      clear hvis hM hkt hv hg
      obtain ⟨q, hq⟩ : ∃ q, q = n + g := ⟨_, rfl⟩
      have HQ := Lib.hid hq.symm
      rw [← hq]
      clear hq
      by_cases hlt : j < sn
      · have i1 : (j : Int) < sn := by omega
        have JL := Lib.hid (show j + 1 ≤ sn by omega)
        obtain ⟨x, ad, hsa, hd', ⟨_, _, _, c3, c4⟩, vm⟩ := HS.out.at_ j hlt
        dsimp only at hsa
        subst hsa
        have VMx := Lib.hid vm
        have DR := Lib.hid hd'
        have hcn := cnt_th hd'
        have CNx := Lib.hid (show x.th.cnt < m ∧ x.el.cnt < m by have := HM.out; omega)
        have CA := Lib.hid (cnt_at hd')
        have SUM := Lib.hid (show g + 1 + x.th.cnt + x.el.cnt ≤ T.cnt ∧ q + 1 + x.th.cnt + x.el.cnt ≤ 1000 ∧ L.length + g + 1 + x.th.cnt + x.el.cnt ≤ 1000 by have := CA.out; have := HG.out; have := HN.out; have := HL.out; have := HQ.out; omega)
        obtain ⟨r, hr⟩ : ∃ r, r = q + 1 + x.th.cnt := ⟨_, rfl⟩
        have HR := Lib.hid hr
        have TH := Lib.hid (fun (W : World) (V : Value) (LL : List Bool) (on1 : Bool) (hLL : LL.length = L.length + g + 1) (kt : Kt (OwV base) w W) (hv : BR W base V LL) => IH.out x.th x.s (q + 1) on1 LL V W CNx.out.1 (by have := SUM.out; omega) (by have := SUM.out; omega) VMx.out.s (kc_v HK.out kt HBB.out) (Nat.le_trans HBS.out kt.size) hv)
        have EL := Lib.hid (fun (W : World) (V : Value) (LL : List Bool) (on1 : Bool) (hLL : LL.length = L.length + g + 1 + x.th.cnt) (kt : Kt (OwV base) w W) (hv : BR W base V LL) => IH.out x.el x.u r on1 LL V W CNx.out.2 (by have := SUM.out; omega) (by have := SUM.out; have := HR.out; omega) VMx.out.u (kc_v HK.out kt HBB.out) (Nat.le_trans HBS.out kt.size) hv)
        rw [← hr] at TH
        simp only [show ((q + 1 : Nat) : Int) = (q : Int) + 1 from rfl] at TH
        have kc4 := kc_v HK.out HKT.out HBB.out
        have C3 := Lib.hid c3
        have C4 := Lib.hid c4
        have GA := Lib.hid (gb_alloc wr (.cells #[.bool on] 4) none)
        have VA := Lib.hid (show BR _ base (.slice a4 k4 c4v) (L ++ M) from own_keep0 V4.out GA.out)
        have TB := Lib.hid (show ∀ jj u, ([.bool on] : List Value)[jj]? = some u → (wr.alloc (.cells #[.bool on] 4)).cell? ((⟨wr.heap.size, 0, none⟩ : Addr).add jj) = some u from fun jj u hu => by
          rw [addr0c, (IsB.new wr 4 #[.bool on]).cell jj]
          simpa using hu)
        have LB := Lib.hid (show (L ++ M).length ≤ 1000000 by have := SUM.out; have := HM2.out; rw [List.length_append]; omega)
        have ZB := Lib.hid (show base ≤ (wr.alloc (.cells #[.bool on] 4)).heap.size by have := HBS.out; have := HKT.out.size; rw [sz_al]; omega)
        have LEN5 := Lib.hid (show (L ++ M ++ [on]).length = L.length + g + 1 by rw [List.length_append, List.length_append, HM2.out]; rfl)
        clear hcn hd' vm c3 c4 kc4 hr
        go_upto_region 6 with (at_builtin; refine pushBool rfl _ _ rfl base _ (L ++ M) rfl VA.out ⟨wr.heap.size, 0, none⟩ 1 on rfl (by exact TB.out) (by exact LB.out) ZB.out ?_; intro V5 w5 v5 g5; have K5 := Lib.hid (HKT.out.trans ((Kt.of_gb GA.out).trans (kt_brow VA.out g5))); obtain ⟨a5, k5, c5, hv5⟩ := br_shape v5; subst hv5; have V5 := Lib.hid v5; clear v5 g5)
        have kc5 := kc_v HK.out K5.out HBB.out
        have c3 := kc5 _ _ C3.out
        have c3' := Lib.hid c3
        have hw : wrap64 ((q : Int) + 1) = (q : Int) + 1 := by have := SUM.out; rw [wrapj (by omega) (by omega)]
        by_cases hin : q < bn
        · have i2 : (q : Int) < bn := by omega
          obtain ⟨bad, hba⟩ := HB.out.some (by omega)
          have cb := kc5 _ _ (HB.out.cells bad hba q hin)
          have HBIT := Lib.hid (bitO_in (B := B) (u := q) (by rw [BL.out]; exact hin))
          try dsimp only at hba
          subst hba
          clear hin
          generalize B.getD q false = b at *
          clear kc5
          cases on
          · skip
            have T1 := Lib.hid (TH.out w5 (.slice a5 k5 c5) _ false LEN5.out K5.out V5.out)
            unfold RetVi at T1
            go_wp2_with fail
            refine T1.out.mono ?_
            clear T1
            rintro e w6 ⟨V6, rfl, v6, k6⟩
            have LEN6 := Lib.hid (show (L ++ M ++ [false] ++ visR B x.th (q + 1) false).length = L.length + g + 1 + x.th.cnt by rw [List.length_append, LEN5.out, visR_len])
            obtain ⟨a6, n6, c6, hv6⟩ := br_shape v6
            subst hv6
            have V6 := Lib.hid v6
            have K6 := Lib.hid (K5.out.trans k6)
            have kc6 := kc_v HK.out K6.out HBB.out
            replace c3 := c3'.out
            have c4 := kc6 _ _ C4.out
            clear v6 k6 kc6 c3
            have T2 := Lib.hid (EL.out w6 _ _ false LEN6.out K6.out V6.out)
            unfold RetVi at T2
            go_wp2_with fail
            refine T2.out.mono ?_
            clear T2
            rintro e w7 ⟨V7, rfl, v7, k7⟩
            obtain ⟨a7, n7, c7, hv7⟩ := br_shape v7
            subst hv7
            have V7 := Lib.hid v7
            have K7 := Lib.hid (K6.out.trans k7)
            clear v7 k7 c4
            have MM := Lib.hid (show L ++ M ++ [false] ++ visR B x.th (q + 1) false ++ visR B x.el r false = L ++ (M ++ (false :: (visR B x.th (q + 1) false ++ visR B x.el r false))) by simp)
            have FIN := Lib.hid (show (M ++ (false :: (visR B x.th (q + 1) false ++ visR B x.el r false))) ++ visR B (T.drop (j + 1)) (n + (g + 1 + x.th.cnt + x.el.cnt)) false = visR B T n false by
              have h := HVIS.out
              rw [DR.out, visR_ct, HQ.out, HBIT.out] at h
              rw [← h]
              have e1 : n + (g + 1 + x.th.cnt + x.el.cnt) = q + 1 + x.th.cnt + x.el.cnt := by have := HQ.out; omega
              rw [e1, ← HR.out]
              simp)
            have LN := Lib.hid (show (M ++ (false :: (visR B x.th (q + 1) false ++ visR B x.el r false))).length = g + 1 + x.th.cnt + x.el.cnt by rw [List.length_append, List.length_cons, List.length_append, visR_len, visR_len, HM2.out]; omega)
            have NUM := Lib.hid (show ((r + x.el.cnt : Nat) : Int) = ((n + (g + 1 + x.th.cnt + x.el.cnt) : Nat) : Int) by have := HQ.out; have := HR.out; omega)
            rw [NUM.out]
            go_wp2
            go_roundw
            case rel =>
              have ca := CA.out
              have hg := HG.out
              have jl := JL.out
              have sn1 := SN1.out
              exact ⟨j + 1, g + 1 + x.th.cnt + x.el.cnt, _, by rw [wrapj (by omega) (by omega)]; rfl, rfl, by omega, by omega, LN.out, FIN.out, by rw [← MM.out]; exact V7.out, K7.out⟩
            case measure => have jl := JL.out; have sn1 := SN1.out; rw [wrapj (by omega) (by omega)]; simp [intOf]; omega
          · skip
            have T1 := Lib.hid (TH.out w5 (.slice a5 k5 c5) _ b LEN5.out K5.out V5.out)
            unfold RetVi at T1
            go_wp2_with fail
            refine T1.out.mono ?_
            clear T1
            rintro e w6 ⟨V6, rfl, v6, k6⟩
            have LEN6 := Lib.hid (show (L ++ M ++ [true] ++ visR B x.th (q + 1) b).length = L.length + g + 1 + x.th.cnt by rw [List.length_append, LEN5.out, visR_len])
            obtain ⟨a6, n6, c6, hv6⟩ := br_shape v6
            subst hv6
            have V6 := Lib.hid v6
            have K6 := Lib.hid (K5.out.trans k6)
            have kc6 := kc_v HK.out K6.out HBB.out
            replace c3 := c3'.out
            have c4 := kc6 _ _ C4.out
            clear v6 k6 kc6 c3
            have T2 := Lib.hid (EL.out w6 _ _ (!b) LEN6.out K6.out V6.out)
            unfold RetVi at T2
            go_wp2_with fail
            refine T2.out.mono ?_
            clear T2
            rintro e w7 ⟨V7, rfl, v7, k7⟩
            obtain ⟨a7, n7, c7, hv7⟩ := br_shape v7
            subst hv7
            have V7 := Lib.hid v7
            have K7 := Lib.hid (K6.out.trans k7)
            clear v7 k7 c4
            have MM := Lib.hid (show L ++ M ++ [true] ++ visR B x.th (q + 1) b ++ visR B x.el r (!b) = L ++ (M ++ (true :: (visR B x.th (q + 1) b ++ visR B x.el r (!b)))) by simp)
            have FIN := Lib.hid (show (M ++ (true :: (visR B x.th (q + 1) b ++ visR B x.el r (!b)))) ++ visR B (T.drop (j + 1)) (n + (g + 1 + x.th.cnt + x.el.cnt)) true = visR B T n true by
              have h := HVIS.out
              rw [DR.out, visR_ct, HQ.out, HBIT.out] at h
              rw [← h]
              have e1 : n + (g + 1 + x.th.cnt + x.el.cnt) = q + 1 + x.th.cnt + x.el.cnt := by have := HQ.out; omega
              rw [e1, ← HR.out]
              simp)
            have LN := Lib.hid (show (M ++ (true :: (visR B x.th (q + 1) b ++ visR B x.el r (!b)))).length = g + 1 + x.th.cnt + x.el.cnt by rw [List.length_append, List.length_cons, List.length_append, visR_len, visR_len, HM2.out]; omega)
            have NUM := Lib.hid (show ((r + x.el.cnt : Nat) : Int) = ((n + (g + 1 + x.th.cnt + x.el.cnt) : Nat) : Int) by have := HQ.out; have := HR.out; omega)
            rw [NUM.out]
            go_wp2
            go_roundw
            case rel =>
              have ca := CA.out
              have hg := HG.out
              have jl := JL.out
              have sn1 := SN1.out
              exact ⟨j + 1, g + 1 + x.th.cnt + x.el.cnt, _, by rw [wrapj (by omega) (by omega)]; rfl, rfl, by omega, by omega, LN.out, FIN.out, by rw [← MM.out]; exact V7.out, K7.out⟩
            case measure => have jl := JL.out; have sn1 := SN1.out; rw [wrapj (by omega) (by omega)]; simp [intOf]; omega
        · have i2 : ¬ (q : Int) < bn := by omega
          have HBIT := Lib.hid (bitO_out (B := B) (u := (q : Int)) (by rw [BL.out]; omega))
          clear kc5 hin
          cases on
          · skip
            have T1 := Lib.hid (TH.out w5 (.slice a5 k5 c5) _ false LEN5.out K5.out V5.out)
            unfold RetVi at T1
            go_wp2_with fail
            refine T1.out.mono ?_
            clear T1
            rintro e w6 ⟨V6, rfl, v6, k6⟩
            have LEN6 := Lib.hid (show (L ++ M ++ [false] ++ visR B x.th (q + 1) false).length = L.length + g + 1 + x.th.cnt by rw [List.length_append, LEN5.out, visR_len])
            obtain ⟨a6, n6, c6, hv6⟩ := br_shape v6
            subst hv6
            have V6 := Lib.hid v6
            have K6 := Lib.hid (K5.out.trans k6)
            have kc6 := kc_v HK.out K6.out HBB.out
            replace c3 := c3'.out
            have c4 := kc6 _ _ C4.out
            clear v6 k6 kc6 c3
            have T2 := Lib.hid (EL.out w6 _ _ false LEN6.out K6.out V6.out)
            unfold RetVi at T2
            go_wp2_with fail
            refine T2.out.mono ?_
            clear T2
            rintro e w7 ⟨V7, rfl, v7, k7⟩
            obtain ⟨a7, n7, c7, hv7⟩ := br_shape v7
            subst hv7
            have V7 := Lib.hid v7
            have K7 := Lib.hid (K6.out.trans k7)
            clear v7 k7 c4
            have MM := Lib.hid (show L ++ M ++ [false] ++ visR B x.th (q + 1) false ++ visR B x.el r false = L ++ (M ++ (false :: (visR B x.th (q + 1) false ++ visR B x.el r false))) by simp)
            have FIN := Lib.hid (show (M ++ (false :: (visR B x.th (q + 1) false ++ visR B x.el r false))) ++ visR B (T.drop (j + 1)) (n + (g + 1 + x.th.cnt + x.el.cnt)) false = visR B T n false by
              have h := HVIS.out
              rw [DR.out, visR_ct, HQ.out, HBIT.out] at h
              rw [← h]
              have e1 : n + (g + 1 + x.th.cnt + x.el.cnt) = q + 1 + x.th.cnt + x.el.cnt := by have := HQ.out; omega
              rw [e1, ← HR.out]
              simp)
            have LN := Lib.hid (show (M ++ (false :: (visR B x.th (q + 1) false ++ visR B x.el r false))).length = g + 1 + x.th.cnt + x.el.cnt by rw [List.length_append, List.length_cons, List.length_append, visR_len, visR_len, HM2.out]; omega)
            have NUM := Lib.hid (show ((r + x.el.cnt : Nat) : Int) = ((n + (g + 1 + x.th.cnt + x.el.cnt) : Nat) : Int) by have := HQ.out; have := HR.out; omega)
            rw [NUM.out]
            go_wp2
            go_roundw
            case rel =>
              have ca := CA.out
              have hg := HG.out
              have jl := JL.out
              have sn1 := SN1.out
              exact ⟨j + 1, g + 1 + x.th.cnt + x.el.cnt, _, by rw [wrapj (by omega) (by omega)]; rfl, rfl, by omega, by omega, LN.out, FIN.out, by rw [← MM.out]; exact V7.out, K7.out⟩
            case measure => have jl := JL.out; have sn1 := SN1.out; rw [wrapj (by omega) (by omega)]; simp [intOf]; omega
          · skip
            have T1 := Lib.hid (TH.out w5 (.slice a5 k5 c5) _ false LEN5.out K5.out V5.out)
            unfold RetVi at T1
            go_wp2_with fail
            refine T1.out.mono ?_
            clear T1
            rintro e w6 ⟨V6, rfl, v6, k6⟩
            have LEN6 := Lib.hid (show (L ++ M ++ [true] ++ visR B x.th (q + 1) false).length = L.length + g + 1 + x.th.cnt by rw [List.length_append, LEN5.out, visR_len])
            obtain ⟨a6, n6, c6, hv6⟩ := br_shape v6
            subst hv6
            have V6 := Lib.hid v6
            have K6 := Lib.hid (K5.out.trans k6)
            have kc6 := kc_v HK.out K6.out HBB.out
            replace c3 := c3'.out
            have c4 := kc6 _ _ C4.out
            clear v6 k6 kc6 c3
            have T2 := Lib.hid (EL.out w6 _ _ true LEN6.out K6.out V6.out)
            unfold RetVi at T2
            go_wp2_with fail
            refine T2.out.mono ?_
            clear T2
            rintro e w7 ⟨V7, rfl, v7, k7⟩
            obtain ⟨a7, n7, c7, hv7⟩ := br_shape v7
            subst hv7
            have V7 := Lib.hid v7
            have K7 := Lib.hid (K6.out.trans k7)
            clear v7 k7 c4
            have MM := Lib.hid (show L ++ M ++ [true] ++ visR B x.th (q + 1) false ++ visR B x.el r true = L ++ (M ++ (true :: (visR B x.th (q + 1) false ++ visR B x.el r true))) by simp)
            have FIN := Lib.hid (show (M ++ (true :: (visR B x.th (q + 1) false ++ visR B x.el r true))) ++ visR B (T.drop (j + 1)) (n + (g + 1 + x.th.cnt + x.el.cnt)) true = visR B T n true by
              have h := HVIS.out
              rw [DR.out, visR_ct, HQ.out, HBIT.out] at h
              rw [← h]
              have e1 : n + (g + 1 + x.th.cnt + x.el.cnt) = q + 1 + x.th.cnt + x.el.cnt := by have := HQ.out; omega
              rw [e1, ← HR.out]
              simp)
            have LN := Lib.hid (show (M ++ (true :: (visR B x.th (q + 1) false ++ visR B x.el r true))).length = g + 1 + x.th.cnt + x.el.cnt by rw [List.length_append, List.length_cons, List.length_append, visR_len, visR_len, HM2.out]; omega)
            have NUM := Lib.hid (show ((r + x.el.cnt : Nat) : Int) = ((n + (g + 1 + x.th.cnt + x.el.cnt) : Nat) : Int) by have := HQ.out; have := HR.out; omega)
            rw [NUM.out]
            go_wp2
            go_roundw
            case rel =>
              have ca := CA.out
              have hg := HG.out
              have jl := JL.out
              have sn1 := SN1.out
              exact ⟨j + 1, g + 1 + x.th.cnt + x.el.cnt, _, by rw [wrapj (by omega) (by omega)]; rfl, rfl, by omega, by omega, LN.out, FIN.out, by rw [← MM.out]; exact V7.out, K7.out⟩
            case measure => have jl := JL.out; have sn1 := SN1.out; rw [wrapj (by omega) (by omega)]; simp [intOf]; omega
      · have i1 : ¬ (j : Int) < sn := by omega
        have DN := Lib.hid (CT.drop_all T j (by rw [SL.out]; omega))
        have FI := Lib.hid (show g = T.cnt by have h := HG.out; rw [DN.out] at h; rw [CT.cnt_nil] at h; omega)
        have FV := Lib.hid (show M = visR B T n on by have h := HVIS.out; rw [DN.out] at h; rw [← h]; exact (List.append_nil _).symm)
        go_wp2
        go_ret2
        exact ⟨_, by rw [show q = n + T.cnt by have := HQ.out; have := FI.out; omega]; rfl, by rw [← FV.out]; exact V4.out, HKT.out⟩
end Go.Proofs.Ytfjeonoihdgdoaa
end
section
/- Units: the law Walk; no condition but that the conditions fit the memory. -/
namespace Go.Proofs.Ytfjeonoihdgdoaa
open Go.RowKit
set_option linter.unusedVariables false
def kxU (X : Tb.PX) : KX :=
  { na := none, nn := 0, nc := 0, nm := X.nm, ha := X.ha, hn := X.hn, hc := X.hc, ma := X.ma, mn := X.mn, mc := X.mc, a0 := X.ra, n0 := X.rn, c0 := X.rc, a1 := X.aa, n1 := X.an, c1 := X.ac, a2 := X.ta, n2 := X.tn, c2 := X.tc,
    a3 := X.sa, n3 := X.sn, c3 := X.sc, a4 := X.ca, n4 := X.cn, c4 := X.cc, a5 := X.da, n5 := X.dn, c5 := X.dc, pa := none, pn := 0, pc := 0, va := none, vn := 0, vc := 0, fa := none, fn := 0, fc := 0, ta := none, tn := 0, tc := 0, la := none, ln := 0, lc := 0, aa := none, an := 0, ac := 0 }
theorem bldT_gl : ∀ (T : CT) (n : Nat) (G : List Gd), ∀ q ∈ bldT T n G, q.2.2.length ≤ G.length + T.cnt := by
  intro T
  induction T with
  | nil => intro n G q hq; cases hq
  | cons k t c N s th u el r i1 i2 i3 =>
    intro n G q hq
    have hc : (CT.cons k t c N s th u el r).cnt = 1 + th.cnt + el.cnt + r.cnt := CV.cnt_ct ⟨k, t, c, N, s, th, u, el⟩ r
    rw [bldT] at hq
    rcases List.mem_cons.1 hq with rfl | hq
    · dsimp only; omega
    · rcases List.mem_append.1 hq with z | z
      · have := i1 _ _ q z; rw [List.length_append, List.length_singleton] at this; omega
      · rcases List.mem_append.1 z with z | z
        · have := i2 _ _ q z; rw [List.length_append, List.length_singleton] at this; omega
        · have := i3 _ _ q z; omega
/-- What is known of the units of a program that has some. -/
structure BuF (L : List Un) (T : CT) (B : List Bool) : Prop where
  len : L.length = T.cnt
  ex : ∀ i, i < L.length → exU L B (i : Int) = (visR B T 0 true).getD i false
  gl : ∀ U ∈ L, U.G.length ≤ T.cnt
theorem buF {L : List Un} {T : CT} (h : L.map uv = bldT T 0 []) (B : List Bool) : BuF L T B := by
  have hl : L.length = T.cnt := by have := congrArg List.length h; rwa [List.length_map, bldT_len] at this
  refine ⟨hl, fun i hi => ?_, fun U hU => ?_⟩
  · have e := vis_bld B T 0 []
    rw [← h, List.map_map] at e
    have e1 : okG [] B = true := rfl
    rw [e1] at e
    rw [← e]
    unfold exU
    rw [decide_eq_true (by omega), Int.toNat_natCast, Bool.true_and]
    simp [List.getD_eq_getElem?_getD, List.getElem?_eq_getElem hi, uv]
  · have hm : uv U ∈ bldT T 0 [] := by rw [← h]; exact List.mem_map.2 ⟨U, hU, rfl⟩
    have := bldT_gl T 0 [] _ hm
    simpa [uv] using this
set_option maxRecDepth 100000 in
set_option maxHeartbeats 40000000 in
theorem walk_walk (w : World) (X : Tb.PX) (P : Tb.Pg) (T : CT) (hp : Tb.SP w X P) (hS : ST w ⟨X.ca, X.cn, X.cc⟩ T) (hcl : ∀ x ∈ T.pre, x.N.length ≤ 5864062014634) (bs : Sl) (B : List Bool) (hB : SB w bs.a bs.n bs.c B) : Calls Try.prog 9 #[.agg #[.string X.nm, .slice X.ha X.hn X.hc, .slice X.ma X.mn X.mc, .slice X.ra X.rn X.rc, .slice X.aa X.an X.ac, .slice X.ta X.tn X.tc, .slice X.sa X.sn X.sc, .slice X.ca X.cn X.cc, .slice X.da X.dn X.dc], .slice bs.a bs.n bs.c] w (RetV (.bool true) w) := by
  have HP := Lib.hid hp
  have GZ := Lib.hid (gb_alloc w (.cells #[.string X.nm, .slice X.ha X.hn X.hc, .slice X.ma X.mn X.mc, .slice X.ra X.rn X.rc, .slice X.aa X.an X.ac, .slice X.ta X.tn X.tc, .slice X.sa X.sn X.sc, .slice X.ca X.cn X.cc, .slice X.da X.dn X.dc] 31) none)
  have B1 := IsB.new w 31 #[.string X.nm, .slice X.ha X.hn X.hc, .slice X.ma X.mn X.mc, .slice X.ra X.rn X.rc, .slice X.aa X.an X.ac, .slice X.ta X.tn X.tc, .slice X.sa X.sn X.sc, .slice X.ca X.cn X.cc, .slice X.da X.dn X.dc]
  have SM := Lib.hid (small22_any (w.alloc (.cells #[.string X.nm, .slice X.ha X.hn X.hc, .slice X.ma X.mn X.mc, .slice X.ra X.rn X.rc, .slice X.aa X.an X.ac, .slice X.ta X.tn X.tc, .slice X.sa X.sn X.sc, .slice X.ca X.cn X.cc, .slice X.da X.dn X.dc] 31)) X P T (hp.keep0 GZ.out) (hS.keep0 GZ.out) hcl)
  have AW := Lib.hid (fun w => awake_any w)
  have BU := Lib.hid (fun (hsm : Sm22 X T) (w3 : World) (g : w.grownBy w3 none) => build_any w3 (kxU X) P.H P.M T (hS.keep0 g) ⟨hp.h.keep0 g, hp.m.keep0 g⟩ (Nat.le_trans hsm.1 (by decide)) (fun x hx => Nat.le_trans (hsm.2.1 x hx) (by decide)) (Nat.le_trans hsm.2.2 (by decide)))
  have VI := Lib.hid (fun (hc : T.cnt ≤ 60) (w3 : World) (g : w.grownBy w3 none) => visit_rec w3 w3.heap.size (Nat.le_refl _) bs B (hB.keep0 g) (T.cnt + 1) T ⟨X.ca, X.cn, X.cc⟩ 0 true [] (.slice none 0 0) w3 (by omega) (by simp; omega) (by omega) (hS.keep0 g) (Kc.refl _) (Nat.le_refl _) (World.ownsRow_nil _ _ _ _))
  have HB := Lib.hid hB
  unfold Tb.RetB at SM
  unfold RetV at AW
  unfold RetBu at BU
  unfold RetVi at VI
  simp only [List.nil_append, Nat.zero_add, show ((0 : Nat) : Int) = 0 from rfl] at VI
  dsimp only [kxU] at BU
  clear hp hS hcl hB
  go_enter Try.func9, Try.ntmps9
  go_upto_region 1 with fail
  generalize w.alloc (.cells #[.string X.nm, .slice X.ha X.hn X.hc, .slice X.ma X.mn X.mc, .slice X.ra X.rn X.rc, .slice X.aa X.an X.ac, .slice X.ta X.tn X.tc, .slice X.sa X.sn X.sc, .slice X.ca X.cn X.cc, .slice X.da X.dn X.dc] 31) = w2 at *
  obtain ⟨bx, hbx⟩ : ∃ b, b = w.heap.size := ⟨_, rfl⟩
  rw [← hbx] at B1 ⊢
  clear hbx
  have B1' := Lib.hid B1
  clear B1
  have c0 := B1'.out.cell 0
  have c1 := B1'.out.cell 1
  have c2 := B1'.out.cell 2
  have c3 := B1'.out.cell 3
  have c4 := B1'.out.cell 4
  have c5 := B1'.out.cell 5
  have c6 := B1'.out.cell 6
  have c7 := B1'.out.cell 7
  have c8 := B1'.out.cell 8
  dsimp at c0 c1 c2 c3 c4 c5 c6 c7 c8
  go_wp2_with fail
  refine SM.out.mono ?_
  rintro e w3 ⟨b, rfl, g3, hq⟩
  have HSQ := Lib.hid hq
  replace B1' := Lib.hid (B1'.out.keep0 g3)
  replace GZ := Lib.hid (gb_trans GZ.out g3)
  clear g3 hq c0 c1 c2 c3 c4 c5 c6 c7 c8 SM
  have c0 := B1'.out.cell 0
  have c1 := B1'.out.cell 1
  have c2 := B1'.out.cell 2
  have c3 := B1'.out.cell 3
  have c4 := B1'.out.cell 4
  have c5 := B1'.out.cell 5
  have c6 := B1'.out.cell 6
  have c7 := B1'.out.cell 7
  have c8 := B1'.out.cell 8
  dsimp at c0 c1 c2 c3 c4 c5 c6 c7 c8
  cases b with
  | false =>
    clear c0 c1 c2 c3 c4 c5 c6 c7 c8
    go_wp2_with fail
    refine (AW.out _).mono ?_
    rintro e x1 ⟨rfl, g⟩
    have GY := Lib.hid (gb_trans GZ.out g)
    clear g
    go_wp2
    go_ret
    exact ⟨rfl, GY.out⟩
  | true =>
  have SQ := Lib.hid (HSQ.out rfl)
  have B3 := Lib.hid (BU.out SQ.out w3 GZ.out)
  clear HSQ BU
  go_wp2_with fail
  refine B3.out.mono ?_
  rintro e w4 ⟨s, L, rfl, su, hL, g4, ha⟩
  replace B1' := Lib.hid (B1'.out.keep0 g4)
  replace GZ := Lib.hid (gb_trans GZ.out g4)
  have SU := Lib.hid su
  have HL := Lib.hid hL
  have SLN := Lib.hid su.len
  clear g4 c0 c1 c2 c3 c4 c5 c6 c7 c8 B3 su hL ha
  have c7 := B1'.out.cell 7
  dsimp at c7
  by_cases hz : s.n = 0
  · have hz' : (s.n : Int) = 0 := by omega
    clear c7
    go_wp2_with fail
    refine (AW.out _).mono ?_
    rintro e x1 ⟨rfl, g⟩
    have GY := Lib.hid (gb_trans GZ.out g)
    clear g
    go_wp2
    go_ret
    exact ⟨rfl, GY.out⟩
  have hz' : ¬ (s.n : Int) = 0 := by omega
  have hz2 : decide ((s.n : Int) = 0) = false := decide_eq_false hz'
  have BF := Lib.hid (show BuF L T B from buF (by
    rw [HL.out]
    unfold bldP
    by_cases h0 : (chkC P.H P.M X.tn T).2 = 0
    · rw [if_pos h0]
    · have e := HL.out
      unfold bldP at e
      rw [if_neg h0] at e
      have := SLN.out
      rw [List.map_eq_nil_iff.1 e] at this
      exact absurd this.symm hz) B)
  have LT := Lib.hid (show s.n = T.cnt from SLN.out.symm.trans BF.out.len)
  have TC := Lib.hid (show T.cnt ≤ 60 from SQ.out.1)
  have V3 := Lib.hid (VI.out TC.out w4 GZ.out)
  have RL := Lib.hid (visR_len B T 0 true)
  clear VI HL
  go_upto_region 7 with (go_at_call 33; refine V3.out.mono ?_; clear V3; rintro e w5 ⟨V5, rfl, v5, k5⟩; have G5 := Lib.hid (show w4.grownBy w5 none from k5.gb (fun k o hk q => by cases o <;> first | exact q.elim | (have := q.1; omega))); obtain ⟨a5, n5, c5, hv5⟩ := br_shape v5; subst hv5; have N5 := Lib.hid (own_len v5); have V5 := Lib.hid v5; clear v5 k5)
  replace SU := Lib.hid (SU.out.keep0 G5.out)
  replace HB := Lib.hid ((HB.out.keep0 GZ.out).keep0 G5.out)
  replace GZ := Lib.hid (gb_trans GZ.out G5.out)
  clear c7
  have n1 : (T.cnt : Int) = s.n := by have := LT.out; omega
  have n2 : (n5 : Int) = T.cnt := by have := N5.out; have := RL.out; omega
  have HGL := Lib.hid (fun k (hk : k < s.n) => show (L.getD k uz).g.n ≤ 100000 from by
    have hk2 : k < L.length := by rw [SLN.out]; exact hk
    have e : L.getD k uz = L[k] := by simp [List.getD_eq_getElem?_getD, List.getElem?_eq_getElem hk2]
    have h1 := (SU.out.mem k hk).2.len
    rw [e] at h1 ⊢
    have := BF.out.gl _ (List.getElem_mem hk2)
    have := TC.out
    omega)
  have EX := Lib.hid (fun (w6 : World) (g : w5.grownBy w6 none) (i : Int) => uex_any w6 s L (SU.out.keep0 g) bs B (HB.out.keep0 g) i (fun k hk => HGL.out k hk))
  unfold RetV at EX
  clear HGL SU HB
  have hc60 := TC.out
  go_wp2
  go_loopw [8] (fun s8 wr => ∃ j : Nat, j ≤ T.cnt ∧ s8 = .int .i64 j ∧ w5.grownBy wr none) (fun s8 _ => T.cnt - (intOf s8).toNat)
  case atStart => exact ⟨0, Nat.zero_le _, rfl, gb_refl _ _⟩
  case round =>
    obtain ⟨j, hj, rfl, hgr⟩ := hrel
    have GR := Lib.hid hgr
    clear hgr
    by_cases hlt : j < T.cnt
    · have i1 : (j : Int) < T.cnt := by omega
      obtain ⟨gR, cR, hvR⟩ := own_head V5.out (by rw [RL.out]; omega)
      injection hvR with hv1 hv2 hv3
      subst hv1 hv2
      have EQ := Lib.hid (BF.out.ex j (by rw [BF.out.len]; exact hlt))
      have cR0 : w5.cell? ⟨gR, j, none⟩ = some (.bool ((visR B T 0 true).getD j false)) := by
        have h := V5.out.cellAt j (show j < (visR B T 0 true).length * 1 by rw [RL.out]; omega)
        rw [h]
        simp [List.getElem?_map, List.getD_eq_getElem?_getD, List.getElem?_eq_getElem (show j < (visR B T 0 true).length by rw [RL.out]; exact hlt)]
      have E1 := Lib.hid (EX.out wr GR.out (j : Int))
      have E2 := Lib.hid (fun (w6 : World) (g : wr.grownBy w6 none) => EX.out w6 (gb_trans GR.out g) (j : Int))
      rw [EQ.out] at E2
      generalize (visR B T 0 true).getD j false = y at *
      have i2 : (j : Int) < ((visR B T 0 true).length : Int) := by rw [RL.out]; omega
      have KS := Lib.hid (fun (w' : World) (q0 : wr.grownBy w' none) => (⟨(gb_trans GR.out q0).cell cR0 (by simp), q0⟩ : (fun w' : World => w'.cell? ⟨gR, j, none⟩ = some (.bool y) ∧ wr.grownBy w' none) w'))
      clear E1 cR0 EQ
      go_upto_region 12 with fail
      have H0 := Lib.hid (gb_drew wr none)
      refine wp_region_held_drew (S := (fun w' : World => w'.cell? ⟨gR, j, none⟩ = some (.bool y) ∧ wr.grownBy w' none)) (by kernel_rfl) (KS.out _ H0.out) (fun hH0 => ?_)
      refine wpAnyH_take (i := 0) (v := ?v1) rfl (by kernel_rfl) (by kernel_rfl) (by kernel_rfl) (fun _ _ _ h => h) (Or.inl ⟨by rfl, ?hy1⟩) (by assumption) ?rest1
      case hy1 => (intro wz hSw; (try dsimp only at hSw); first | (go_simp; done) | (go_simp; with_reducible rfl))
      try simp only [Act.put, List.getElem_toArray, List.getElem_cons_zero, List.setIfInBounds_toArray, List.set_cons_zero, List.set_cons_succ]
      refine wpAnyH_take (i := 1) (v := ?v2) rfl (by kernel_rfl) (by kernel_rfl) (by kernel_rfl) (fun _ _ _ h => h) (Or.inl ⟨by rfl, ?hy2⟩) (by assumption) ?rest2
      case hy2 => (intro wz hSw; (try dsimp only at hSw); first | (go_simp; done) | (go_simp; with_reducible rfl))
      try simp only [Act.put, List.getElem_toArray, List.getElem_cons_succ, List.getElem_cons_zero, List.setIfInBounds_toArray, List.set_cons_zero, List.set_cons_succ]
      refine wpAnyH_take (i := 2) (v := ?v3) rfl (by kernel_rfl) (by kernel_rfl) (by kernel_rfl) (fun _ _ _ h => h) (Or.inl ⟨by rfl, ?hy3⟩) (by assumption) ?rest3
      case hy3 => (intro wz hSw; (try dsimp only at hSw); first | (go_simp; done) | (go_simp; with_reducible rfl))
      try simp only [Act.put, List.getElem_toArray, List.getElem_cons_succ, List.getElem_cons_zero, List.setIfInBounds_toArray, List.set_cons_zero, List.set_cons_succ]
      refine wpAnyH_take (i := 4) (v := ?v4) rfl (by kernel_rfl) (by kernel_rfl) (by kernel_rfl) (fun _ _ _ h => h) (Or.inl ⟨by rfl, ?hy4⟩) (by assumption) ?rest4
      case hy4 => (intro wz hSw; (try dsimp only at hSw); first | (go_simp; done) | (go_simp; with_reducible rfl))
      try simp only [Act.put, List.getElem_toArray, List.getElem_cons_succ, List.getElem_cons_zero, List.setIfInBounds_toArray, List.set_cons_zero, List.set_cons_succ]
      refine wpAnyH_take (i := 5) (v := ?v5) rfl (by kernel_rfl) (by kernel_rfl) (by kernel_rfl) (fun _ _ _ h => h) (Or.inl ⟨by rfl, ?hy5⟩) (by assumption) ?rest5
      case hy5 => (intro wz hSw; (try dsimp only at hSw); first | (go_simp; done) | (go_simp; with_reducible rfl))
      try simp only [Act.put, List.getElem_toArray, List.getElem_cons_succ, List.getElem_cons_zero, List.setIfInBounds_toArray, List.set_cons_zero, List.set_cons_succ]
      refine wpAnyH_take (i := 6) (v := ?v6) rfl (by kernel_rfl) (by kernel_rfl) (by kernel_rfl) (fun _ _ _ h => h) (Or.inl ⟨by rfl, ?hy6⟩) (by assumption) ?rest6
      case hy6 => (intro wz hSw; (try dsimp only at hSw); first | (go_simp; done) | (go_simp; with_reducible rfl))
      try simp only [Act.put, List.getElem_toArray, List.getElem_cons_succ, List.getElem_cons_zero, List.setIfInBounds_toArray, List.set_cons_zero, List.set_cons_succ]
      refine wpAnyH_take (i := 7) (v := ?v7) rfl (by kernel_rfl) (by kernel_rfl) (by kernel_rfl) (fun _ _ _ h => h) (Or.inl ⟨by rfl, ?hy7⟩) (by assumption) ?rest7
      case hy7 => (intro wz hSw; (try dsimp only at hSw); first | (go_simp; done) | (go_simp; with_reducible rfl))
      try simp only [Act.put, List.getElem_toArray, List.getElem_cons_succ, List.getElem_cons_zero, List.setIfInBounds_toArray, List.set_cons_zero, List.set_cons_succ]
      refine wpAnyH_ready (rs := [3]) (by kernel_rfl) (by simp) ?_
      refine AllReadyH.cons (o := _) rfl (fun K hK => ?_) AllReadyH.nil
      go_simp
      (with_reducible refine (E2.out _ H0.out).mono ?_)
      rintro e hw3 ⟨rfl, g⟩
      have H1 := Lib.hid (gb_trans H0.out g)
      clear g
      try dsimp only
      refine hK.out _ _ (KS.out _ H1.out) (fun hH1 => ?_)
      clear hK K hH0
      try simp only [Act.put, List.getElem_toArray, List.getElem_cons_succ, List.getElem_cons_zero, List.setIfInBounds_toArray, List.set_cons_zero, List.set_cons_succ]
      refine wpAnyH_take (i := 8) (v := ?v8) rfl (by kernel_rfl) (by kernel_rfl) (by kernel_rfl) (fun _ _ _ h => h) (Or.inl ⟨by rfl, ?hy8⟩) (by assumption) ?rest8
      case hy8 => (intro wz hSw; (try dsimp only at hSw); first | (go_simp; done) | (go_simp; with_reducible rfl))
      try simp only [Act.put, List.getElem_toArray, List.getElem_cons_succ, List.getElem_cons_zero, List.setIfInBounds_toArray, List.set_cons_zero, List.set_cons_succ]
      refine wpAnyH_done (by kernel_rfl) ?_ _
      clear hH1
      go_wp2
      go_roundw
      case rel => exact ⟨j + 1, by omega, by go_num, gb_trans GR.out H1.out⟩
      case measure => simp [intOf]; omega
    · have i1 : ¬ (j : Int) < T.cnt := by omega
      go_wp2_with fail
      refine (AW.out _).mono ?_
      rintro e x1 ⟨rfl, g⟩
      have GY := Lib.hid (gb_trans GZ.out (gb_trans GR.out g))
      clear g
      go_wp2
      go_ret
      exact ⟨rfl, GY.out⟩
end Go.Proofs.Ytfjeonoihdgdoaa
end
