/- Parser: the machine: extract; no condition but sizes. -/
import Derived.Test.YtjhknmklejkknaaPsO
import Derived.Test.YtjhknmklejkknaaGxG
import Derived.Deep.QuietTactic
import Derived.BigQuiet
import Derived.Deep.RegionWith
import Derived.Deep.RegionHeld
namespace Go.Proofs.Ytjhknmklejkknaa
open Go.RowKit
set_option linter.unusedVariables false
set_option maxRecDepth 100000 in
set_option maxHeartbeats 8000000 in
theorem mextract_any (W w : World) (nm v3 v4 v5 v7 v8 : Value) (ha ma sa : Option Addr) (hn hc mn mc sn sc : Nat) (va fa ta pa ea : Option Addr) (vn vc fn fc tn tc pn pc en ec : Nat) (b r s : Nat) (V : Value) (bs : List Int) (pos : Nat) (L : EL) (Vs : List Value) (st : List Int) (o : Bool) (c : Int) (hm : MSt W b r s #[nm, .slice ha hn hc, .slice ma mn mc, v3, v4, v5, .slice sa sn sc, v7, v8, .pointer (some ⟨r, 0, none⟩), .slice va vn vc, .slice fa fn fc, .slice ta tn tc, .slice pa pn pc, .slice ea en ec, .bool o, .int .i64 c] V bs pos ⟨va, fa, ta, pa, vn, vc, fn, fc, tn, tc, pn, pc⟩ L Vs (.slice ea en ec) st w) (H : List (ByteArray × List Fld)) (hH : SH W ha hn hc H) (hz9 : HZ H) (hb : ∀ x ∈ bs, 0 ≤ x ∧ x ≤ 255) (hbl : bs.length ≤ 60000) (hp : pos ≤ 8 * bs.length) (h8 : pos % 8 = 0) (k : Nat) (h1 : k < hn) (h2 : k < vn) (h3 : k < fn) (res : Int × EL × Nat) (hres : res = pEx H bs L pos k) :
    Calls Try.prog 109 #[.pointer (some ⟨b, 0, none⟩), .int .i64 (k : Int)] w (fun e w' => e = .returned (.int .i64 res.1) ∧ Kp w w' ∧ ∃ Vs', MSt W b r s #[nm, .slice ha hn hc, .slice ma mn mc, v3, v4, v5, .slice sa sn sc, v7, v8, .pointer (some ⟨r, 0, none⟩), .slice va vn vc, .slice fa fn fc, .slice ta tn tc, .slice pa pn pc, .slice ea en ec, .bool o, .int .i64 c] V bs res.2.2 ⟨va, fa, ta, pa, vn, vc, fn, fc, tn, tc, pn, pc⟩ res.2.1 Vs' (.slice ea en ec) st w') := by
  obtain ⟨hd, rfl⟩ := hH.some (by omega)
  obtain ⟨ya, yn, yc, d0, d1, ok⟩ := sh_hd hH hz9.nm hz9.fl rfl h1
  have D0 := Lib.hid d0
  have D1 := Lib.hid d1
  have HM := Lib.hid hm
  have RG := Lib.hid (rdH_good (hs := (H.getD k hz).1) (l := (H.getD k hz).2) hp h8).2.2.2
  unfold pEx at hres
  obtain ⟨⟨er, us, pos2⟩, hq⟩ : ∃ p, p = rdH (H.getD k hz).1 (H.getD k hz).2 bs pos := ⟨_, rfl⟩
  rw [← hq] at hres RG
  dsimp only at hres RG
  have HRES := Lib.hid hres
  have KR1 := Lib.hid (read_any W w.drew _ ya yn yc _ ok (below_gb (gb_trans hm.g (gb_drew w none))) W.heap.size r s V bs pos (hm.rd.keep0 (gb_drew w none)) hm.ls hb hbl hp er us pos2 hq.symm)
  unfold RetRh at KR1
  have OEW := Lib.hid (hm.pk.keep0 (gb_drew w none))
  have BM := Lib.hid hm.m
  have SB := Lib.hid hm.rd.sb
  have GW := Lib.hid (fun (w' : World) (q : w.grownBy w' (some s)) => (gb_new (gb_trans (gb_any hm.g) q) hm.ls : W.grownBy w' none))
  have WS := Lib.hid (show W.heap.size ≤ w.drew.heap.size from Nat.le_trans hm.g.size (gb_drew w none).size)
  generalize (H.getD k hz).1 = s0 at *
  generalize (H.getD k hz).2 = l0 at *
  obtain ⟨gv, gvc, hva⟩ := own_head (show w.ownsRow W.heap.size 4 1 (.slice va vn vc) vn (L.V.map Value.bool) by have z := hm.pk.v; have y := hm.pk.vl; unfold NB at z; dsimp only at y z; rw [y] at z; exact z) (by omega)
  obtain ⟨gf, gfc, hfa⟩ := own_head (show w.ownsRow W.heap.size 40 1 (.slice fa fn fc) fn Vs by have z := hm.pk.f.out; have y := hm.pk.fl; dsimp only at y z; rw [y] at z; exact z) (by omega)
  injection hva with hva _ hvc
  injection hfa with hfa _ hfc
  subst hva hfa hvc hfc
  have i0 : (0 : Int) ≤ (k : Int) := by omega
  have i1 : (k : Int) < hn := by omega
  have i2 : (k : Int) < vn := by omega
  have i3 : (k : Int) < fn := by omega
  have I3 := Lib.hid h3
  have I2 := Lib.hid h2
  clear hm d0 d1 hH hz9 hb hbl hp h8 h1 h2 h3 hres hq ok
  go_enter Try.func109, Try.ntmps109
  go_upto_region 1 with fail
  have KR := Lib.hid (fun (w' : World) (q0 : w.grownBy w' (some s)) => (⟨(BM.out.keepS q0 SB.out (by decide)).cell 1, (BM.out.keepS q0 SB.out (by decide)).cell 9, (GW.out _ q0).cell D0.out (by simp), (GW.out _ q0).cell D1.out (by simp), q0⟩ : (fun w' : World => w'.cell? ⟨b, 1, none⟩ = some (.slice (some hd) hn hc) ∧ w'.cell? ⟨b, 9, none⟩ = some (.pointer (some ⟨r, 0, none⟩)) ∧ w'.cell? (hd.add (k * 2)) = some (.string s0) ∧ w'.cell? ⟨(hd.add (k * 2)).block, (hd.add (k * 2)).off + 1, none⟩ = some (.slice ya yn yc) ∧ w.grownBy w' (some s)) w'))
  have R0 := Lib.hid (gb_drew w (some s))
  refine wp_region_held_drew (S := (fun w' : World => w'.cell? ⟨b, 1, none⟩ = some (.slice (some hd) hn hc) ∧ w'.cell? ⟨b, 9, none⟩ = some (.pointer (some ⟨r, 0, none⟩)) ∧ w'.cell? (hd.add (k * 2)) = some (.string s0) ∧ w'.cell? ⟨(hd.add (k * 2)).block, (hd.add (k * 2)).off + 1, none⟩ = some (.slice ya yn yc) ∧ w.grownBy w' (some s))) (by kernel_rfl) (KR.out _ R0.out) (fun hH0 => ?_)
  refine wpAnyH_take (i := 0) (v := ?v8) rfl (by kernel_rfl) (by kernel_rfl) (by kernel_rfl) (fun _ _ _ h => h) (Or.inl ⟨by rfl, ?hy8⟩) (by assumption) ?rest8
  case hy8 => (intro wz hSw; (try dsimp only at hSw); first | (go_simp; done) | (go_simp; with_reducible rfl))
  try simp only [Act.put, List.getElem_toArray, List.getElem_cons_zero, List.setIfInBounds_toArray, List.set_cons_zero, List.set_cons_succ]
  refine wpAnyH_take (i := 1) (v := ?v9) rfl (by kernel_rfl) (by kernel_rfl) (by kernel_rfl) (fun _ _ _ h => h) (Or.inl ⟨by rfl, ?hy9⟩) (by assumption) ?rest9
  case hy9 => (intro wz hSw; (try dsimp only at hSw); first | (go_simp; done) | (go_simp; with_reducible rfl))
  try simp only [Act.put, List.getElem_toArray, List.getElem_cons_succ, List.getElem_cons_zero, List.setIfInBounds_toArray, List.set_cons_zero, List.set_cons_succ]
  refine wpAnyH_take (i := 2) (v := ?v10) rfl (by kernel_rfl) (by kernel_rfl) (by kernel_rfl) (fun _ _ _ h => h) (Or.inl ⟨by rfl, ?hy10⟩) (by assumption) ?rest10
  case hy10 => (intro wz hSw; (try dsimp only at hSw); first | (go_simp; done) | (go_simp; with_reducible rfl))
  try simp only [Act.put, List.getElem_toArray, List.getElem_cons_succ, List.getElem_cons_zero, List.setIfInBounds_toArray, List.set_cons_zero, List.set_cons_succ]
  refine wpAnyH_take (i := 3) (v := ?v11) rfl (by kernel_rfl) (by kernel_rfl) (by kernel_rfl) (fun _ _ _ h => h) (Or.inl ⟨by rfl, ?hy11⟩) (by assumption) ?rest11
  case hy11 => (intro wz hSw; (try dsimp only at hSw); first | (go_simp; done) | (go_simp; with_reducible rfl))
  try simp only [Act.put, List.getElem_toArray, List.getElem_cons_succ, List.getElem_cons_zero, List.setIfInBounds_toArray, List.set_cons_zero, List.set_cons_succ]
  refine wpAnyH_take (i := 4) (v := ?v12) rfl (by kernel_rfl) (by kernel_rfl) (by kernel_rfl) (fun _ _ _ h => h) (Or.inl ⟨by rfl, ?hy12⟩) (by assumption) ?rest12
  case hy12 => (intro wz hSw; (try dsimp only at hSw); first | (go_simp; done) | (go_simp; with_reducible rfl))
  try simp only [Act.put, List.getElem_toArray, List.getElem_cons_succ, List.getElem_cons_zero, List.setIfInBounds_toArray, List.set_cons_zero, List.set_cons_succ]
  refine wpAnyH_take (i := 5) (v := ?v13) rfl (by kernel_rfl) (by kernel_rfl) (by kernel_rfl) (fun _ _ _ h => h) (Or.inl ⟨by rfl, ?hy13⟩) (by assumption) ?rest13
  case hy13 => (intro wz hSw; (try dsimp only at hSw); first | (go_simp; done) | (go_simp; with_reducible rfl))
  try simp only [Act.put, List.getElem_toArray, List.getElem_cons_succ, List.getElem_cons_zero, List.setIfInBounds_toArray, List.set_cons_zero, List.set_cons_succ]
  refine wpAnyH_take (i := 6) (v := ?v14) rfl (by kernel_rfl) (by kernel_rfl) (by kernel_rfl) (fun _ _ _ h => h) (Or.inl ⟨by rfl, ?hy14⟩) (by assumption) ?rest14
  case hy14 => (intro wz hSw; (try dsimp only at hSw); first | (go_simp; done) | (go_simp; with_reducible rfl))
  try simp only [Act.put, List.getElem_toArray, List.getElem_cons_succ, List.getElem_cons_zero, List.setIfInBounds_toArray, List.set_cons_zero, List.set_cons_succ]
  refine wpAnyH_take (i := 7) (v := ?v15) rfl (by kernel_rfl) (by kernel_rfl) (by kernel_rfl) (fun _ _ _ h => h) (Or.inl ⟨by rfl, ?hy15⟩) (by assumption) ?rest15
  case hy15 => (intro wz hSw; (try dsimp only at hSw); first | (go_simp; done) | (go_simp; with_reducible rfl))
  try simp only [Act.put, List.getElem_toArray, List.getElem_cons_succ, List.getElem_cons_zero, List.setIfInBounds_toArray, List.set_cons_zero, List.set_cons_succ]
  refine wpAnyH_take (i := 8) (v := ?v16) rfl (by kernel_rfl) (by kernel_rfl) (by kernel_rfl) (fun _ _ _ h => h) (Or.inl ⟨by rfl, ?hy16⟩) (by assumption) ?rest16
  case hy16 => (intro wz hSw; (try dsimp only at hSw); first | (go_simp; done) | (go_simp; with_reducible rfl))
  try simp only [Act.put, List.getElem_toArray, List.getElem_cons_succ, List.getElem_cons_zero, List.setIfInBounds_toArray, List.set_cons_zero, List.set_cons_succ]
  refine wpAnyH_take (i := 9) (v := ?v17) rfl (by kernel_rfl) (by kernel_rfl) (by kernel_rfl) (fun _ _ _ h => h) (Or.inl ⟨by rfl, ?hy17⟩) (by assumption) ?rest17
  case hy17 => (intro wz hSw; (try dsimp only at hSw); first | (go_simp; done) | (go_simp; with_reducible rfl))
  try simp only [Act.put, List.getElem_toArray, List.getElem_cons_succ, List.getElem_cons_zero, List.setIfInBounds_toArray, List.set_cons_zero, List.set_cons_succ]
  refine wpAnyH_take (i := 10) (v := ?v18) rfl (by kernel_rfl) (by kernel_rfl) (by kernel_rfl) (fun _ _ _ h => h) (Or.inl ⟨by rfl, ?hy18⟩) (by assumption) ?rest18
  case hy18 => (intro wz hSw; (try dsimp only at hSw); first | (go_simp; done) | (go_simp; with_reducible rfl))
  try simp only [Act.put, List.getElem_toArray, List.getElem_cons_succ, List.getElem_cons_zero, List.setIfInBounds_toArray, List.set_cons_zero, List.set_cons_succ]
  refine wpAnyH_take (i := 11) (v := ?v19) rfl (by kernel_rfl) (by kernel_rfl) (by kernel_rfl) (fun _ _ _ h => h) (Or.inl ⟨by rfl, ?hy19⟩) (by assumption) ?rest19
  case hy19 => (intro wz hSw; (try dsimp only at hSw); first | (go_simp; done) | (go_simp; with_reducible rfl))
  try simp only [Act.put, List.getElem_toArray, List.getElem_cons_succ, List.getElem_cons_zero, List.setIfInBounds_toArray, List.set_cons_zero, List.set_cons_succ]
  refine wpAnyH_ready (rs := [12]) (by kernel_rfl) (by simp) ?_
  refine AllReadyH.cons (o := _) rfl (fun K hK => ?_) AllReadyH.nil
  go_simp
  (with_reducible refine (KR1.out).mono ?_)
  rintro e rw1 ⟨v9, rfl, g, q, u⟩
  have RD := Lib.hid q
  have UU := Lib.hid u
  obtain ⟨ya9, yc9, hV9⟩ := own_shape UU.out
  subst hV9
  clear q u
  have R1 := Lib.hid (gb_trans R0.out g)
  clear g
  try dsimp only
  refine hK.out _ _ (KR.out _ R1.out) (fun hH1 => ?_)
  clear hK K hH0
  try simp only [Act.put, List.getElem_toArray, List.getElem_cons_succ, List.getElem_cons_zero, List.setIfInBounds_toArray, List.set_cons_zero, List.set_cons_succ]
  refine wpAnyH_take (i := 13) (v := ?v20) rfl (by kernel_rfl) (by kernel_rfl) (by kernel_rfl) (fun _ _ _ h => h) (Or.inl ⟨by rfl, ?hy20⟩) (by assumption) ?rest20
  case hy20 => (intro wz hSw; (try dsimp only at hSw); first | (go_simp; done) | (go_simp; with_reducible rfl))
  try simp only [Act.put, List.getElem_toArray, List.getElem_cons_succ, List.getElem_cons_zero, List.setIfInBounds_toArray, List.set_cons_zero, List.set_cons_succ]
  refine wpAnyH_take (i := 14) (v := ?v21) rfl (by kernel_rfl) (by kernel_rfl) (by kernel_rfl) (fun _ _ _ h => h) (Or.inl ⟨by rfl, ?hy21⟩) (by assumption) ?rest21
  case hy21 => (intro wz hSw; (try dsimp only at hSw); first | (go_simp; done) | (go_simp; with_reducible rfl))
  try simp only [Act.put, List.getElem_toArray, List.getElem_cons_succ, List.getElem_cons_zero, List.setIfInBounds_toArray, List.set_cons_zero, List.set_cons_succ]
  refine wpAnyH_take (i := 15) (v := ?v22) rfl (by kernel_rfl) (by kernel_rfl) (by kernel_rfl) (fun _ _ _ h => h) (Or.inl ⟨by rfl, ?hy22⟩) (by assumption) ?rest22
  case hy22 => (intro wz hSw; (try dsimp only at hSw); first | (go_simp; done) | (go_simp; with_reducible rfl))
  try simp only [Act.put, List.getElem_toArray, List.getElem_cons_succ, List.getElem_cons_zero, List.setIfInBounds_toArray, List.set_cons_zero, List.set_cons_succ]
  refine wpAnyH_take (i := 16) (v := ?v23) rfl (by kernel_rfl) (by kernel_rfl) (by kernel_rfl) (fun _ _ _ h => h) (Or.inl ⟨by rfl, ?hy23⟩) (by assumption) ?rest23
  case hy23 => (intro wz hSw; (try dsimp only at hSw); first | (go_simp; done) | (go_simp; with_reducible rfl))
  try simp only [Act.put, List.getElem_toArray, List.getElem_cons_succ, List.getElem_cons_zero, List.setIfInBounds_toArray, List.set_cons_zero, List.set_cons_succ]
  refine wpAnyH_take (i := 17) (v := ?v24) rfl (by kernel_rfl) (by kernel_rfl) (by kernel_rfl) (fun _ _ _ h => h) (Or.inl ⟨by rfl, ?hy24⟩) (by assumption) ?rest24
  case hy24 => (intro wz hSw; (try dsimp only at hSw); first | (go_simp; done) | (go_simp; with_reducible rfl))
  try simp only [Act.put, List.getElem_toArray, List.getElem_cons_succ, List.getElem_cons_zero, List.setIfInBounds_toArray, List.set_cons_zero, List.set_cons_succ]
  refine wpAnyH_done (by kernel_rfl) ?_ _
  clear hH1
  have GR := Lib.hid R1.out
  generalize rw1 = w2 at *
  have HM2 := Lib.hid (HM.out.read GR.out RD.out)
  have KP1 := Lib.hid (show Kp w w2 from fun q t cs x n1 n2 n3 => x.keepS GR.out SB.out n1)
  clear HM GW R0 R1 KR KR1
  by_cases he : er = 0
  case neg =>
    have q0 : (er == 0) = false := by simp [he]
    rw [if_neg he] at HRES
    have Z := Lib.hid HRES.out
    clear he HRES
    go_wp2
    go_ret
    rw [Z.out]
    exact ⟨rfl, KP1.out, Vs, HM2.out⟩
  subst he
  rw [if_pos rfl] at HRES
  have Z := Lib.hid HRES.out
  clear HRES
  have c10 := HM2.out.m.cell 10
  have c11 := HM2.out.m.cell 11
  dsimp at c10 c11
  have v2 : w2.ownsRow W.heap.size 4 1 (.slice (some ⟨gv, 0, none⟩) L.V.length vc) L.V.length (L.V.map Value.bool) := by have z := HM2.out.pk.v; unfold NB at z; have y := HM2.out.pk.vl; dsimp only at y z; rw [← y] at z; exact z
  obtain ⟨cv, bv⟩ := own_blk v2
  have f2 : w2.ownsRow W.heap.size 40 1 (.slice (some ⟨gf, 0, none⟩) fn fc) fn Vs := by have z := HM2.out.pk.f.out; have y := HM2.out.pk.fl; dsimp only at y z; rw [y] at z; exact z
  have g1 := gb_set w2 gv k (.bool true)
  have f3 := own_keepS f2 g1 bv (by decide)
  obtain ⟨cf, bf⟩ := own_blk f3
  have g2 := gb_set (w2.setCell ⟨gv, k, none⟩ (.bool true)) gf k (.slice ya9 us.length yc9)
  have m2 := HM2.out.m.keepS g1 bv (by decide)
  have m3 := m2.keepS g2 bf (by decide)
  have d10 := m2.cell 10
  have d11 := m2.cell 11
  have e10 := m3.cell 10
  have e11 := m3.cell 11
  dsimp at d10 d11 e10 e11
  have VL := Lib.hid (show L.V.length = vn from HM2.out.pk.vl)
  have a0 := own_cellB v2 k (by rw [VL.out]; exact I2.out)
  have a1 := bv.free k
  have NV := Lib.hid (show k < Vs.length by rw [HM2.out.pk.f.nV, HM2.out.pk.fl]; exact I3.out)
  have b0 : (w2.setCell ⟨gv, k, none⟩ (.bool true)).cell? ⟨gf, k, none⟩ = some (Vs.getD k nilV) := by
    rw [f3.cellAt k (by rw [Nat.mul_one]; exact I3.out)]
    simp [NV.out]
  have b1 := (show IsB w2 gf _ _ from (own_blk f2).choose_spec).free k
  have TK := Lib.hid (HM2.out.take (w0 := w.drew) (OEW.out) rfl rfl k I3.out (.slice ya9 us.length yc9) us (own_low UU.out WS.out) (fun q hq => (World.ownsRow.lt UU.out q hq).1) RG.out)
  have KP2 := Lib.hid (KP1.out.trans (show Kp w2 _ from fun q t cs x n1 n2 n3 => ((x).keepS g1 bv n2).keepS g2 bf n3))
  clear v2 f2 g1 f3 g2 m2 m3 bv bf GR
  go_wp2
  go_upto_region 3 with fail
  refine wp_region_held_drew (S := (fun w' : World => w'.cell? ⟨b, 10, none⟩ = some (.slice (some ⟨gv, 0, none⟩) vn vc) ∧ w'.cell? ⟨b, 11, none⟩ = some (.slice (some ⟨gf, 0, none⟩) fn fc))) (by kernel_rfl) ⟨c10, c11⟩ (fun hH0 => ?_)
  refine wpAnyH_take (i := 0) (v := ?v25) rfl (by kernel_rfl) (by kernel_rfl) (by kernel_rfl) (fun _ _ _ h => h) (Or.inl ⟨by rfl, ?hy25⟩) (by assumption) ?rest25
  case hy25 => (intro wz hSw; (try dsimp only at hSw); first | (go_simp; done) | (go_simp; with_reducible rfl))
  try simp only [Act.put, List.getElem_toArray, List.getElem_cons_zero, List.setIfInBounds_toArray, List.set_cons_zero, List.set_cons_succ]
  refine wpAnyH_take (i := 1) (v := ?v26) rfl (by kernel_rfl) (by kernel_rfl) (by kernel_rfl) (fun _ _ _ h => h) (Or.inl ⟨by rfl, ?hy26⟩) (by assumption) ?rest26
  case hy26 => (intro wz hSw; (try dsimp only at hSw); first | (go_simp; done) | (go_simp; with_reducible rfl))
  try simp only [Act.put, List.getElem_toArray, List.getElem_cons_succ, List.getElem_cons_zero, List.setIfInBounds_toArray, List.set_cons_zero, List.set_cons_succ]
  refine wpAnyH_take (i := 2) (v := ?v27) rfl (by kernel_rfl) (by kernel_rfl) (by kernel_rfl) (fun _ _ _ h => h) (Or.inl ⟨by rfl, ?hy27⟩) (by assumption) ?rest27
  case hy27 => (intro wz hSw; (try dsimp only at hSw); first | (go_simp; done) | (go_simp; with_reducible rfl))
  try simp only [Act.put, List.getElem_toArray, List.getElem_cons_succ, List.getElem_cons_zero, List.setIfInBounds_toArray, List.set_cons_zero, List.set_cons_succ]
  refine wpAnyH_take (i := 3) (v := ?v28) rfl (by kernel_rfl) (by kernel_rfl) (by kernel_rfl) (fun _ _ _ h => h) (Or.inl ⟨by rfl, ?hy28⟩) (by assumption) ?rest28
  case hy28 => (intro wz hSw; (try dsimp only at hSw); first | (go_simp; done) | (go_simp; with_reducible rfl))
  try simp only [Act.put, List.getElem_toArray, List.getElem_cons_succ, List.getElem_cons_zero, List.setIfInBounds_toArray, List.set_cons_zero, List.set_cons_succ]
  refine wpAnyH_take (i := 4) (v := ?v29) rfl (by kernel_rfl) (by kernel_rfl) (by kernel_rfl) (fun _ _ _ h => h) (Or.inl ⟨by rfl, ?hy29⟩) (by assumption) ?rest29
  case hy29 => (intro wz hSw; (try dsimp only at hSw); first | (go_simp; done) | (go_simp; with_reducible rfl))
  try simp only [Act.put, List.getElem_toArray, List.getElem_cons_succ, List.getElem_cons_zero, List.setIfInBounds_toArray, List.set_cons_zero, List.set_cons_succ]
  refine wpAnyH_take (i := 5) (v := ?v30) rfl (by kernel_rfl) (by kernel_rfl) (by kernel_rfl) (fun _ _ _ h => h) (Or.inl ⟨by rfl, ?hy30⟩) (by assumption) ?rest30
  case hy30 => (intro wz hSw; (try dsimp only at hSw); first | (go_simp; done) | (go_simp; with_reducible rfl))
  try simp only [Act.put, List.getElem_toArray, List.getElem_cons_succ, List.getElem_cons_zero, List.setIfInBounds_toArray, List.set_cons_zero, List.set_cons_succ]
  refine wpAnyH_take (i := 6) (v := ?v31) rfl (by kernel_rfl) (by kernel_rfl) (by kernel_rfl) (fun _ _ _ h => h) (Or.inl ⟨by rfl, ?hy31⟩) (by assumption) ?rest31
  case hy31 => (intro wz hSw; (try dsimp only at hSw); first | (go_simp; done) | (go_simp; with_reducible rfl))
  try simp only [Act.put, List.getElem_toArray, List.getElem_cons_succ, List.getElem_cons_zero, List.setIfInBounds_toArray, List.set_cons_zero, List.set_cons_succ]
  refine wpAnyH_take (i := 7) (v := ?v32) rfl (by kernel_rfl) (by kernel_rfl) (by kernel_rfl) (fun _ _ _ h => h) (Or.inl ⟨by rfl, ?hy32⟩) (by assumption) ?rest32
  case hy32 => (intro wz hSw; (try dsimp only at hSw); first | (go_simp; done) | (go_simp; with_reducible rfl))
  try simp only [Act.put, List.getElem_toArray, List.getElem_cons_succ, List.getElem_cons_zero, List.setIfInBounds_toArray, List.set_cons_zero, List.set_cons_succ]
  refine wpAnyH_take (i := 8) (v := ?v33) rfl (by kernel_rfl) (by kernel_rfl) (by kernel_rfl) (fun _ _ _ h => h) (Or.inl ⟨by rfl, ?hy33⟩) (by assumption) ?rest33
  case hy33 => (intro wz hSw; (try dsimp only at hSw); first | (go_simp; done) | (go_simp; with_reducible rfl))
  try simp only [Act.put, List.getElem_toArray, List.getElem_cons_succ, List.getElem_cons_zero, List.setIfInBounds_toArray, List.set_cons_zero, List.set_cons_succ]
  refine wpAnyH_take (i := 9) (v := ?v34) rfl (by kernel_rfl) (by kernel_rfl) (by kernel_rfl) (fun _ _ _ h => h) (Or.inl ⟨by rfl, ?hy34⟩) (by assumption) ?rest34
  case hy34 => (intro wz hSw; (try dsimp only at hSw); first | (go_simp; done) | (go_simp; with_reducible rfl))
  try simp only [Act.put, List.getElem_toArray, List.getElem_cons_succ, List.getElem_cons_zero, List.setIfInBounds_toArray, List.set_cons_zero, List.set_cons_succ]
  refine wpAnyH_take (i := 10) (v := ?v35) rfl (by kernel_rfl) (by kernel_rfl) (by kernel_rfl) (fun _ _ _ h => h) (Or.inl ⟨by rfl, ?hy35⟩) (by assumption) ?rest35
  case hy35 => (intro wz hSw; (try dsimp only at hSw); first | (go_simp; done) | (go_simp; with_reducible rfl))
  try simp only [Act.put, List.getElem_toArray, List.getElem_cons_succ, List.getElem_cons_zero, List.setIfInBounds_toArray, List.set_cons_zero, List.set_cons_succ]
  refine wpAnyH_take (i := 11) (v := ?v36) rfl (by kernel_rfl) (by kernel_rfl) (by kernel_rfl) (fun _ _ _ h => h) (Or.inl ⟨by rfl, ?hy36⟩) (by assumption) ?rest36
  case hy36 => (intro wz hSw; (try dsimp only at hSw); first | (go_simp; done) | (go_simp; with_reducible rfl))
  try simp only [Act.put, List.getElem_toArray, List.getElem_cons_succ, List.getElem_cons_zero, List.setIfInBounds_toArray, List.set_cons_zero, List.set_cons_succ]
  refine wpAnyH_take (i := 12) (v := ?v37) rfl (by kernel_rfl) (by kernel_rfl) (by kernel_rfl) (fun _ _ _ h => h) (Or.inl ⟨by rfl, ?hy37⟩) (by assumption) ?rest37
  case hy37 => (intro wz hSw; (try dsimp only at hSw); first | (go_simp; done) | (go_simp; with_reducible rfl))
  try simp only [Act.put, List.getElem_toArray, List.getElem_cons_succ, List.getElem_cons_zero, List.setIfInBounds_toArray, List.set_cons_zero, List.set_cons_succ]
  refine wpAnyH_take (i := 13) (v := ?v38) rfl (by kernel_rfl) (by kernel_rfl) (by kernel_rfl) (fun _ _ _ h => h) (Or.inl ⟨by rfl, ?hy38⟩) (by assumption) ?rest38
  case hy38 => (intro wz hSw; (try dsimp only at hSw); first | (go_simp; done) | (go_simp; with_reducible rfl))
  try simp only [Act.put, List.getElem_toArray, List.getElem_cons_succ, List.getElem_cons_zero, List.setIfInBounds_toArray, List.set_cons_zero, List.set_cons_succ]
  refine wpAnyH_ready (rs := [14]) (by kernel_rfl) (by simp) ?_
  refine AllReadyH.cons (o := _) rfl (fun K hK => ?_) AllReadyH.nil
  go_simp
  refine hK.out _ _ ⟨d10, d11⟩ (fun hH1 => ?_)
  clear hK K hH0
  try simp only [Act.put, List.getElem_toArray, List.getElem_cons_succ, List.getElem_cons_zero, List.setIfInBounds_toArray, List.set_cons_zero, List.set_cons_succ]
  refine wpAnyH_take (i := 15) (v := ?vv15) rfl (by kernel_rfl) (by kernel_rfl) (by kernel_rfl) (fun _ _ _ h => h) (Or.inl ⟨by rfl, ?hyy15⟩) (by assumption) ?restt15
  case hyy15 => (intro wz hSw; (try dsimp only at hSw); first | (go_simp; done) | (go_simp; with_reducible rfl))
  try simp only [Act.put, List.getElem_toArray, List.getElem_cons_succ, List.getElem_cons_zero, List.setIfInBounds_toArray, List.set_cons_zero, List.set_cons_succ]
  refine wpAnyH_ready (rs := [16]) (by kernel_rfl) (by simp) ?_
  refine AllReadyH.cons (o := _) rfl (fun K hK => ?_) AllReadyH.nil
  go_simp
  refine hK.out _ _ ⟨e10, e11⟩ (fun hH2 => ?_)
  clear hK K hH1
  try simp only [Act.put, List.getElem_toArray, List.getElem_cons_succ, List.getElem_cons_zero, List.setIfInBounds_toArray, List.set_cons_zero, List.set_cons_succ]
  refine wpAnyH_done (by kernel_rfl) ?_ _
  go_wp2
  go_ret
  rw [Z.out]
  exact ⟨rfl, KP2.out.trans (kp_gb (gb_drew _ none)), _, TK.out.keep0 (gb_drew _ none)⟩
end Go.Proofs.Ytjhknmklejkknaa
