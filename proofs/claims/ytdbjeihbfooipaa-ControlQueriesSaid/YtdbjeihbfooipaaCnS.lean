/- Control: the reference's Equal says yes to two flows that are the same; no condition but that the trees lie in memory and are not large. -/
import Derived.Test.YtdbjeihbfooipaaCnN
import Derived.Test.YtdbjeihbfooipaaOrT
namespace Go.Proofs.Ytdbjeihbfooipaa
open Go.RowKit
set_option linter.unusedVariables false
section
variable {P : Program} {ops : Array Oper} {Q : Exit → Act → World → Prop} {md : Region.Mode} {S : World → Prop}
def INV8 (s1 s2 : Nat) (t : TypeId) (r1 r2 z : Array Value) (w0 : World) (a0 : Act) (l : Array Bool) (a : Act) (w : World) : Prop :=
  ∃ (f1 f2 g1 g2 : Bool) (v1 v2 : Value), l = #[true, true, true, true, true, true, true, true, f1, f2, g1, g2] ∧
    a = (a0.put (some s1) v1).put (some s2) v2 ∧ w0.grownBy w none ∧ CH3 w0 w t f1 g1 v1 r1 z ∧ CH3 w0 w t f2 g2 v2 r2 z ∧
    (f1 = true → f2 = true → v1 ≠ v2) ∧ (f1 = false → g1 = false) ∧ (f2 = false → g2 = false)
theorem wp_two8 {r1 r2 z : Array Value} {s1 s2 : Nat} {t : TypeId} (w0 : World) (a0 : Act) (w : World)
    (step : ∀ l a w, INV8 s1 s2 t r1 r2 z w0 a0 l a w → ∀ i, i ∈ Region.ready md ops l → wpOp P ops Q i (fun a' w' => S w' ∧ INV8 s1 s2 t r1 r2 z w0 a0 (l.setIfInBounds i true) a' w') a w)
    (fin : ∀ l a w, INV8 s1 s2 t r1 r2 z w0 a0 l a w → Region.ready md ops l = [] → Q .normal a w)
    (g0 : w0.grownBy w none) (h0 : a0 = (a0.put (some s1) (a0.tmps.getD s1 undef)).put (some s2) (a0.tmps.getD s2 undef)) :
    wpAnyH P md ops Q S 4 #[true, true, true, true, true, true, true, true, false, false, false, false] a0 w :=
  wpAnyH_inv _ step fin 4 _ _ _ ⟨false, false, false, false, _, _, rfl, h0, g0, (fun e => by cases e), (fun e => by cases e), (fun e => by cases e), fun _ => rfl, fun _ => rfl⟩ (by decide)
end
theorem far5 {w : World} {g b : Nat} {t : TypeId} {cs : Array Value} {u0 u1 u2 u3 u4 : Value} (h : IsB w g t cs) (hn : g ≠ b) : IsB (((((w.setCell ⟨b, 0, none⟩ u0).setCell ⟨b, 1, none⟩ u1).setCell ⟨b, 2, none⟩ u2).setCell ⟨b, 3, none⟩ u3).setCell ⟨b, 4, none⟩ u4) g t cs :=
  ((((h.set_far hn 0 u0).set_far hn 1 u1).set_far hn 2 u2).set_far hn 3 u3).set_far hn 4 u4
theorem fill5 {w : World} {b : Nat} {t : TypeId} {z0 z1 z2 z3 z4 : Value} (h : IsB w b t #[z0, z1, z2, z3, z4]) (u0 u1 u2 u3 u4 : Value) : IsB (((((w.setCell ⟨b, 0, none⟩ u0).setCell ⟨b, 1, none⟩ u1).setCell ⟨b, 2, none⟩ u2).setCell ⟨b, 3, none⟩ u3).setCell ⟨b, 4, none⟩ u4) b t #[u0, u1, u2, u3, u4] :=
  ((((h.set 0 u0).set 1 u1).set 2 u2).set 3 u3).set 4 u4
theorem grow5 {w0 w : World} {b : Nat} {u0 u1 u2 u3 u4 : Value} (g : w0.grownBy w none) (h : w0.heap.size ≤ b) : w0.grownBy (((((w.setCell ⟨b, 0, none⟩ u0).setCell ⟨b, 1, none⟩ u1).setCell ⟨b, 2, none⟩ u2).setCell ⟨b, 3, none⟩ u3).setCell ⟨b, 4, none⟩ u4) none :=
  gb_put (gb_put (gb_put (gb_put (gb_put g h) h) h) h) h
theorem eqv_len : ∀ (T U : CT), T.eqv U → T.len = U.len
  | .nil, .nil, _ => rfl
  | .cons _ _ _ _ _ _ _ _ r, .cons _ _ _ _ _ _ _ _ r2, h => by show r.len + 1 = r2.len + 1; rw [eqv_len r r2 h.2.2.2.2.2]
  | .nil, .cons _ _ _ _ _ _ _ _ _, h => h.elim
  | .cons _ _ _ _ _ _ _ _ _, .nil, h => h.elim
theorem eqv_drop : ∀ (T U : CT) (j : Nat), T.eqv U → (T.drop j).eqv (U.drop j)
  | T, U, 0, h => by rw [CT.drop_zero, CT.drop_zero]; exact h
  | .nil, .nil, j + 1, _ => by rw [CT.drop_nil]; trivial
  | .cons _ _ _ _ _ _ _ _ r, .cons _ _ _ _ _ _ _ _ r2, j + 1, h => eqv_drop r r2 j h.2.2.2.2.2
  | .nil, .cons _ _ _ _ _ _ _ _ _, j + 1, h => h.elim
  | .cons _ _ _ _ _ _ _ _ _, .nil, j + 1, h => h.elim
theorem eqv_ct {x y : CV} {r r2 : CT} (h : (x.ct r).eqv (y.ct r2)) : EqN x y := ⟨h.1, h.2.1, h.2.2.1, h.2.2.2.1, h.2.2.2.2.1⟩
set_option maxRecDepth 100000 in
set_option maxHeartbeats 40000000 in
theorem req_rec : ∀ (m : Nat) (T U : CT) (s u : Sl) (w : World), T.cnt < m → T.cnt ≤ 1000000 → Cnd T → ST w s T → ST w u U → T.eqv U → Calls Try.prog 39 #[.slice s.a s.n s.c, .slice u.a u.n u.c] w (RetV (.bool true) w) := by
  intro m
  induction m with
  | zero => intro T U s u w h; omega
  | succ m ih =>
    intro T U s u w hm hc hcd hS hU hE
    obtain ⟨sa, sn, sc⟩ := s
    obtain ⟨ua, un, uc⟩ := u
    have IH := Lib.hid ih
    have HM := Lib.hid hm
    have HC := Lib.hid hc
    have HCD := Lib.hid hcd
    have HS := Lib.hid hS
    have HU := Lib.hid hU
    have HE := Lib.hid hE
    have scap : sn ≤ sc := hS.cap
    have ucap : un ≤ uc := hU.cap
    have hlu : un = sn := by have a := hS.len; have b := hU.len; have c := eqv_len _ _ hE; dsimp only at a b; omega
    subst hlu
    have sb : un ≤ 1000000 := by have := hS.len; have := CT.len_cnt T; dsimp only at *; omega
    clear ih hm hc hcd hS hU hE
    dsimp only at *
    go_enter Try.func39, Try.ntmps39
    go_wp2
    go_loopw [5] (fun s5 wr => ∃ (j : Nat), s5 = .int .i64 (j : Int) ∧ j ≤ un ∧ w.grownBy wr none) (fun s5 _ => un - (intOf s5).toNat)
    case atStart => exact ⟨0, rfl, Nat.zero_le _, gb_refl _ _⟩
    case round =>
      obtain ⟨j, rfl, hj, hgr⟩ := hrel
      have GR := Lib.hid hgr
      clear hgr
      by_cases hlt : j < un
      · have i1 : (j : Int) < un := by omega
        have i0 : (0 : Int) ≤ (j : Int) := by omega
        obtain ⟨x, ad, hsa, hd, ⟨c0, c1, c2, c3, c4⟩, vm⟩ := HS.out.at_ j hlt
        obtain ⟨y, bd, hua, hd2, ⟨e0, e1, e2, e3, e4⟩, vm2⟩ := HU.out.at_ j hlt
        dsimp only at hsa hua
        subst hsa hua
        have hen := eqv_drop _ _ j HE.out
        rw [hd, hd2] at hen
        have EN := eqv_ct hen
        have hcn := cnt_th hd
        have hcdx := cnd_at HCD.out hd
        have I1 := Lib.hid (fun (w2 : World) (g : w.grownBy w2 none) => IH.out x.th y.th x.s y.s w2 (by have := HM.out; omega) (by have := HC.out; omega) hcdx.2.1 (vm.s.keep0 g) (vm2.s.keep0 g) EN.th)
        have I2 := Lib.hid (fun (w2 : World) (g : w.grownBy w2 none) => IH.out x.el y.el x.u y.u w2 (by have := HM.out; omega) (by have := HC.out; omega) hcdx.2.2 (vm.u.keep0 g) (vm2.u.keep0 g) EN.el)
        have hk := EN.k
        have ht := EN.t
        have hN := EN.N
        have hxl := hcdx.1
        have NX := Lib.hid vm.c
        have NY := Lib.hid vm2.c
        unfold RetV at I1 I2
        clear hen hd hd2 vm vm2 EN hcn hcdx
        obtain ⟨xk, xt, ⟨ca, cn, cc⟩, N, ⟨ta, tn, tc⟩, th, ⟨ea, en, ec⟩, el⟩ := x
        obtain ⟨yk, yt, ⟨ca2, cn2, cc2⟩, N2, ⟨ta2, tn2, tc2⟩, th2, ⟨ea2, en2, ec2⟩, el2⟩ := y
        dsimp only [Sl.v] at *
        subst hk ht hN
        have hcl : cn2 = cn := by rw [← NX.out.len, ← NY.out.len]
        subst hcl
        have nb : cn2 ≤ 1000 := by rw [← NX.out.len]; exact hxl
        have ncap := NX.out.cap
        have ncap2 := NY.out.cap
        replace c0 := GR.out.cell c0 (by simp)
        replace c1 := GR.out.cell c1 (by simp)
        replace c2 := GR.out.cell c2 (by simp)
        replace c3 := GR.out.cell c3 (by simp)
        replace c4 := GR.out.cell c4 (by simp)
        replace e0 := GR.out.cell e0 (by simp)
        replace e1 := GR.out.cell e1 (by simp)
        replace e2 := GR.out.cell e2 (by simp)
        replace e3 := GR.out.cell e3 (by simp)
        replace e4 := GR.out.cell e4 (by simp)
        have C0 := Lib.hid c0
        have C1 := Lib.hid c1
        have C2 := Lib.hid c2
        have C3 := Lib.hid c3
        have C4 := Lib.hid c4
        have E0 := Lib.hid e0
        have E1 := Lib.hid e1
        have E2 := Lib.hid e2
        have E3 := Lib.hid e3
        have E4 := Lib.hid e4
        clear c0 c1 c2 c3 c4 e0 e1 e2 e3 e4 hxl
        go_wp2
        have KV := Lib.hid (fun (w' : World) (q0 : wr.grownBy w' none) => (⟨q0.cell C0.out (by simp), q0.cell C1.out (by simp), q0.cell C2.out (by simp), q0.cell C3.out (by simp), q0.cell C4.out (by simp), q0.cell E0.out (by simp), q0.cell E1.out (by simp), q0.cell E2.out (by simp), q0.cell E3.out (by simp), q0.cell E4.out (by simp), q0⟩ : (fun w' : World => w'.cell? (ad.add (j * 5)) = some (.int .i64 xk) ∧ w'.cell? ⟨(ad.add (j * 5)).block, (ad.add (j * 5)).off + 1, none⟩ = some (.int .i64 xt) ∧ w'.cell? ⟨(ad.add (j * 5)).block, (ad.add (j * 5)).off + 2, none⟩ = some (.slice ca cn2 cc) ∧ w'.cell? ⟨(ad.add (j * 5)).block, (ad.add (j * 5)).off + 3, none⟩ = some (.slice ta tn tc) ∧ w'.cell? ⟨(ad.add (j * 5)).block, (ad.add (j * 5)).off + 4, none⟩ = some (.slice ea en ec) ∧ w'.cell? (bd.add (j * 5)) = some (.int .i64 xk) ∧ w'.cell? ⟨(bd.add (j * 5)).block, (bd.add (j * 5)).off + 1, none⟩ = some (.int .i64 xt) ∧ w'.cell? ⟨(bd.add (j * 5)).block, (bd.add (j * 5)).off + 2, none⟩ = some (.slice ca2 cn2 cc2) ∧ w'.cell? ⟨(bd.add (j * 5)).block, (bd.add (j * 5)).off + 3, none⟩ = some (.slice ta2 tn2 tc2) ∧ w'.cell? ⟨(bd.add (j * 5)).block, (bd.add (j * 5)).off + 4, none⟩ = some (.slice ea2 en2 ec2) ∧ wr.grownBy w' none) w'))
        have V0 := Lib.hid (gb_drew wr none)
        refine wp_region_held_drew (S := (fun w' : World => w'.cell? (ad.add (j * 5)) = some (.int .i64 xk) ∧ w'.cell? ⟨(ad.add (j * 5)).block, (ad.add (j * 5)).off + 1, none⟩ = some (.int .i64 xt) ∧ w'.cell? ⟨(ad.add (j * 5)).block, (ad.add (j * 5)).off + 2, none⟩ = some (.slice ca cn2 cc) ∧ w'.cell? ⟨(ad.add (j * 5)).block, (ad.add (j * 5)).off + 3, none⟩ = some (.slice ta tn tc) ∧ w'.cell? ⟨(ad.add (j * 5)).block, (ad.add (j * 5)).off + 4, none⟩ = some (.slice ea en ec) ∧ w'.cell? (bd.add (j * 5)) = some (.int .i64 xk) ∧ w'.cell? ⟨(bd.add (j * 5)).block, (bd.add (j * 5)).off + 1, none⟩ = some (.int .i64 xt) ∧ w'.cell? ⟨(bd.add (j * 5)).block, (bd.add (j * 5)).off + 2, none⟩ = some (.slice ca2 cn2 cc2) ∧ w'.cell? ⟨(bd.add (j * 5)).block, (bd.add (j * 5)).off + 3, none⟩ = some (.slice ta2 tn2 tc2) ∧ w'.cell? ⟨(bd.add (j * 5)).block, (bd.add (j * 5)).off + 4, none⟩ = some (.slice ea2 en2 ec2) ∧ wr.grownBy w' none)) (by kernel_rfl) (KV.out _ V0.out) (fun hH0 => ?_)
        refine wpAnyH_take (i := 0) (v := ?v14001) rfl (by kernel_rfl) (by kernel_rfl) (by kernel_rfl) (fun _ _ _ h => h) (Or.inl ⟨by rfl, ?hy14001⟩) (by assumption) ?rest14001
        case hy14001 => (intro wz hSw; (try dsimp only at hSw); first | (go_simp; done) | (go_simp; with_reducible rfl))
        try simp only [Act.put, List.getElem_toArray, List.getElem_cons_zero, List.setIfInBounds_toArray, List.set_cons_zero, List.set_cons_succ]
        refine wpAnyH_take (i := 1) (v := ?v14002) rfl (by kernel_rfl) (by kernel_rfl) (by kernel_rfl) (fun _ _ _ h => h) (Or.inl ⟨by rfl, ?hy14002⟩) (by assumption) ?rest14002
        case hy14002 => (intro wz hSw; (try dsimp only at hSw); first | (go_simp; done) | (go_simp; with_reducible rfl))
        try simp only [Act.put, List.getElem_toArray, List.getElem_cons_succ, List.getElem_cons_zero, List.setIfInBounds_toArray, List.set_cons_zero, List.set_cons_succ]
        refine wpAnyH_take (i := 2) (v := ?v14003) rfl (by kernel_rfl) (by kernel_rfl) (by kernel_rfl) (fun _ _ _ h => h) (Or.inl ⟨by rfl, ?hy14003⟩) (by assumption) ?rest14003
        case hy14003 => (intro wz hSw; (try dsimp only at hSw); first | (go_simp; done) | (go_simp; with_reducible rfl))
        try simp only [Act.put, List.getElem_toArray, List.getElem_cons_succ, List.getElem_cons_zero, List.setIfInBounds_toArray, List.set_cons_zero, List.set_cons_succ]
        refine wpAnyH_take (i := 3) (v := ?v14004) rfl (by kernel_rfl) (by kernel_rfl) (by kernel_rfl) (fun _ _ _ h => h) (Or.inl ⟨by rfl, ?hy14004⟩) (by assumption) ?rest14004
        case hy14004 => (intro wz hSw; (try dsimp only at hSw); first | (go_simp; done) | (go_simp; with_reducible rfl))
        try simp only [Act.put, List.getElem_toArray, List.getElem_cons_succ, List.getElem_cons_zero, List.setIfInBounds_toArray, List.set_cons_zero, List.set_cons_succ]
        refine wpAnyH_take (i := 4) (v := ?v14005) rfl (by kernel_rfl) (by kernel_rfl) (by kernel_rfl) (fun _ _ _ h => h) (Or.inl ⟨by rfl, ?hy14005⟩) (by assumption) ?rest14005
        case hy14005 => (intro wz hSw; (try dsimp only at hSw); first | (go_simp; done) | (go_simp; with_reducible rfl))
        try simp only [Act.put, List.getElem_toArray, List.getElem_cons_succ, List.getElem_cons_zero, List.setIfInBounds_toArray, List.set_cons_zero, List.set_cons_succ]
        refine wpAnyH_take (i := 5) (v := ?v14006) rfl (by kernel_rfl) (by kernel_rfl) (by kernel_rfl) (fun _ _ _ h => h) (Or.inl ⟨by rfl, ?hy14006⟩) (by assumption) ?rest14006
        case hy14006 => (intro wz hSw; (try dsimp only at hSw); first | (go_simp; done) | (go_simp; with_reducible rfl))
        try simp only [Act.put, List.getElem_toArray, List.getElem_cons_succ, List.getElem_cons_zero, List.setIfInBounds_toArray, List.set_cons_zero, List.set_cons_succ]
        refine wpAnyH_take (i := 6) (v := ?v14007) rfl (by kernel_rfl) (by kernel_rfl) (by kernel_rfl) (fun _ _ _ h => h) (Or.inl ⟨by rfl, ?hy14007⟩) (by assumption) ?rest14007
        case hy14007 => (intro wz hSw; (try dsimp only at hSw); first | (go_simp; done) | (go_simp; with_reducible rfl))
        try simp only [Act.put, List.getElem_toArray, List.getElem_cons_succ, List.getElem_cons_zero, List.setIfInBounds_toArray, List.set_cons_zero, List.set_cons_succ]
        refine wpAnyH_take (i := 7) (v := ?v14008) rfl (by kernel_rfl) (by kernel_rfl) (by kernel_rfl) (fun _ _ _ h => h) (Or.inl ⟨by rfl, ?hy14008⟩) (by assumption) ?rest14008
        case hy14008 => (intro wz hSw; (try dsimp only at hSw); first | (go_simp; done) | (go_simp; with_reducible rfl))
        try simp only [Act.put, List.getElem_toArray, List.getElem_cons_succ, List.getElem_cons_zero, List.setIfInBounds_toArray, List.set_cons_zero, List.set_cons_succ]
        refine wp_two8 (r1 := #[.int .i64 xk, .int .i64 xt, .slice ca cn2 cc, .slice ta tn tc, .slice ea en ec]) (r2 := #[.int .i64 xk, .int .i64 xt, .slice ca2 cn2 cc2, .slice ta2 tn2 tc2, .slice ea2 en2 ec2]) (z := #[.int .i64 0, .int .i64 0, .slice none 0 0, .slice none 0 0, .slice none 0 0]) (s1 := 6) (s2 := 7) (t := 67) wr.drew _ _ ?step ?fin (gb_refl _ _) rfl
        case step =>
          clear hH0
          rintro l A W ⟨f1, f2, g1, g2, v1, v2, rfl, rfl, gw, h1, h2, d1, z1, z2⟩ i hi
          obtain ⟨un_, o, ho, hall⟩ := mem_ready.1 hi
          clear hi
          have GW := Lib.hid gw
          have H1 := Lib.hid h1
          have H2 := Lib.hid h2
          clear gw h1 h2
          have hlt : i < 12 := by
            obtain ⟨q, _⟩ := Array.getElem?_eq_some_iff.1 ho
            exact q
          rcases (show i = 0 ∨ i = 1 ∨ i = 2 ∨ i = 3 ∨ i = 4 ∨ i = 5 ∨ i = 6 ∨ i = 7 ∨ i = 8 ∨ i = 9 ∨ i = 10 ∨ i = 11 by omega) with rfl | rfl | rfl | rfl | rfl | rfl | rfl | rfl | rfl | rfl | rfl | rfl
          · exact absurd un_ (by simp)
          · exact absurd un_ (by simp)
          · exact absurd un_ (by simp)
          · exact absurd un_ (by simp)
          · exact absurd un_ (by simp)
          · exact absurd un_ (by simp)
          · exact absurd un_ (by simp)
          · exact absurd un_ (by simp)
          · have un_ : f1 = false := by simpa using un_
            subst un_
            obtain rfl : g1 = false := z1 rfl
            refine wpOp_step (o := _) rfl (fun K2 hK2 => ?_)
            have HK2 := Lib.hid hK2
            clear hK2 ho hall
            simp only [Act.put, List.setIfInBounds_toArray, List.set_cons_zero, List.set_cons_succ]
            go_simp
            refine HK2.out _ _ ⟨KV.out _ (gb_trans (gb_drew wr none) (gb_trans GW.out (gb_alloc _ _ none))), true, f2, false, g2, (.pointer (some ⟨W.heap.size, 0, none⟩)), v2, by simp, by first | rfl | (simp [Act.put]; done), gb_trans GW.out (gb_alloc _ _ none), CH3.new GW.out, H2.out.alloc _, (fun _ e => Ne.symm (H2.out.ne e)), (fun e => by cases e), z2⟩
          · have un_ : f2 = false := by simpa using un_
            subst un_
            obtain rfl : g2 = false := z2 rfl
            refine wpOp_step (o := _) rfl (fun K2 hK2 => ?_)
            have HK2 := Lib.hid hK2
            clear hK2 ho hall
            simp only [Act.put, List.setIfInBounds_toArray, List.set_cons_zero, List.set_cons_succ]
            go_simp
            refine HK2.out _ _ ⟨KV.out _ (gb_trans (gb_drew wr none) (gb_trans GW.out (gb_alloc _ _ none))), f1, true, g1, false, v1, (.pointer (some ⟨W.heap.size, 0, none⟩)), by simp, by first | rfl | (simp [Act.put]; done), gb_trans GW.out (gb_alloc _ _ none), H1.out.alloc _, CH3.new GW.out, (fun e _ => H1.out.ne e), z1, (fun e => by cases e)⟩
          · have un_ : g1 = false := by simpa using un_
            subst un_
            have fl : f1 = true := by
              have o2 : o = _ := (Option.some.inj ho).symm
              subst o2
              have q := hall ⟨8, .data⟩ (by simp) rfl
              simpa using q
            subst fl
            obtain ⟨bq, rfl, hb2, hb3⟩ := H1.out rfl
            have HB3 := Lib.hid (show IsB W bq 67 #[.int .i64 0, .int .i64 0, .slice none 0 0, .slice none 0 0, .slice none 0 0] from hb3)
            have SB := Lib.hid (fill5 HB3.out (.int .i64 xk) (.int .i64 xt) (.slice ca cn2 cc) (.slice ta tn tc) (.slice ea en ec))
            have fr0 := HB3.out.free 0
            have fr1 := HB3.out.free 1
            have fr2 := HB3.out.free 2
            have fr3 := HB3.out.free 3
            have fr4 := HB3.out.free 4
            have cr0 := HB3.out.cell 0
            have cr1 := HB3.out.cell 1
            have cr2 := HB3.out.cell 2
            have cr3 := HB3.out.cell 3
            have cr4 := HB3.out.cell 4
            dsimp at cr0 cr1 cr2 cr3 cr4
            refine wpOp_step (o := _) rfl (fun K2 hK2 => ?_)
            have HK2 := Lib.hid hK2
            clear hK2 ho hall hb3
            simp only [Act.put, List.setIfInBounds_toArray, List.set_cons_zero, List.set_cons_succ]
            go_simp
            refine HK2.out _ _ ⟨KV.out _ (gb_trans (gb_drew wr none) (grow5 GW.out hb2)), true, f2, true, g2, (.pointer (some ⟨bq, 0, none⟩)), v2, by simp, by first | rfl | (simp [Act.put]; done), grow5 GW.out hb2, (fun _ => ⟨bq, rfl, hb2, SB.out⟩), (fun e => by obtain ⟨b2, q1, q2, q3⟩ := H2.out e; exact ⟨b2, q1, q2, by have NN : b2 ≠ bq := (fun ee => (Ne.symm (d1 rfl e)) (by rw [q1, ee])); exact far5 q3 NN⟩), d1, (fun e => by cases e), z2⟩
          · have un_ : g2 = false := by simpa using un_
            subst un_
            have fl : f2 = true := by
              have o2 : o = _ := (Option.some.inj ho).symm
              subst o2
              have q := hall ⟨9, .data⟩ (by simp) rfl
              simpa using q
            subst fl
            obtain ⟨bq, rfl, hb2, hb3⟩ := H2.out rfl
            have HB3 := Lib.hid (show IsB W bq 67 #[.int .i64 0, .int .i64 0, .slice none 0 0, .slice none 0 0, .slice none 0 0] from hb3)
            have SB := Lib.hid (fill5 HB3.out (.int .i64 xk) (.int .i64 xt) (.slice ca2 cn2 cc2) (.slice ta2 tn2 tc2) (.slice ea2 en2 ec2))
            have fr0 := HB3.out.free 0
            have fr1 := HB3.out.free 1
            have fr2 := HB3.out.free 2
            have fr3 := HB3.out.free 3
            have fr4 := HB3.out.free 4
            have cr0 := HB3.out.cell 0
            have cr1 := HB3.out.cell 1
            have cr2 := HB3.out.cell 2
            have cr3 := HB3.out.cell 3
            have cr4 := HB3.out.cell 4
            dsimp at cr0 cr1 cr2 cr3 cr4
            refine wpOp_step (o := _) rfl (fun K2 hK2 => ?_)
            have HK2 := Lib.hid hK2
            clear hK2 ho hall hb3
            simp only [Act.put, List.setIfInBounds_toArray, List.set_cons_zero, List.set_cons_succ]
            go_simp
            refine HK2.out _ _ ⟨KV.out _ (gb_trans (gb_drew wr none) (grow5 GW.out hb2)), f1, true, g1, true, v1, (.pointer (some ⟨bq, 0, none⟩)), by simp, by first | rfl | (simp [Act.put]; done), grow5 GW.out hb2, (fun e => by obtain ⟨b2, q1, q2, q3⟩ := H1.out e; exact ⟨b2, q1, q2, by have NN : b2 ≠ bq := (fun ee => (d1 e rfl) (by rw [q1, ee])); exact far5 q3 NN⟩), (fun _ => ⟨bq, rfl, hb2, SB.out⟩), d1, z1, (fun e => by cases e)⟩
        case fin =>
          clear hH0
          rintro l A W ⟨f1, f2, g1, g2, v1, v2, rfl, rfl, gw, h1, h2, d1, z1, z2⟩ hr
          obtain ⟨rfl, rfl, rfl, rfl⟩ : f1 = true ∧ f2 = true ∧ g1 = true ∧ g2 = true := by
            clear h1 h2 d1 z1 z2 gw
            revert hr
            cases f1 <;> cases f2 <;> cases g1 <;> cases g2 <;> first | exact fun _ => ⟨rfl, rfl, rfl, rfl⟩ | exact fun hr => absurd hr (by decide +kernel)
          obtain ⟨b1, rfl, _, e1⟩ := h1 rfl
          obtain ⟨b2, rfl, _, e2⟩ := h2 rfl
          have X1 := Lib.hid (show IsB W b1 67 #[.int .i64 xk, .int .i64 xt, .slice ca cn2 cc, .slice ta tn tc, .slice ea en ec] from e1)
          have X2 := Lib.hid (show IsB W b2 67 #[.int .i64 xk, .int .i64 xt, .slice ca2 cn2 cc2, .slice ta2 tn2 tc2, .slice ea2 en2 ec2] from e2)
          have GW := Lib.hid (gb_trans GR.out (gb_trans (gb_drew wr none) gw))
          clear e1 e2 gw d1 z1 z2 hr h1 h2 KV V0 C0 C1 C2 C3 C4 E0 E1 E2 E3 E4
          simp only [Act.put, List.setIfInBounds_toArray, List.set_cons_zero, List.set_cons_succ]
          have k0 := X1.out.cell 0
          have k1 := X1.out.cell 1
          have k2 := X1.out.cell 2
          have k3 := X1.out.cell 3
          have k4 := X1.out.cell 4
          have l0 := X2.out.cell 0
          have l1 := X2.out.cell 1
          have l2 := X2.out.cell 2
          have l3 := X2.out.cell 3
          have l4 := X2.out.cell 4
          dsimp at k0 k1 k2 k3 k4 l0 l1 l2 l3 l4
          go_upto_region 9 with (first
            | (go_at_call 39; refine (I1.out _ GW.out).mono ?_; clear I1; rintro e w5 ⟨rfl, g5⟩; have G5 := Lib.hid (gb_trans GW.out g5); have W1 := Lib.hid (X1.out.keep0 g5); have W2 := Lib.hid (X2.out.keep0 g5); clear g5 k0 k1 k2 k3 k4 l0 l1 l2 l3 l4; have k4 := W1.out.cell 4; have l4 := W2.out.cell 4; dsimp at k4 l4)
            | (go_at_call 39; refine (I2.out _ G5.out).mono ?_; clear I2; rintro e w6 ⟨rfl, g6⟩; have G6 := Lib.hid (gb_trans G5.out g6); have U1 := Lib.hid (W1.out.keep0 g6); have U2 := Lib.hid (W2.out.keep0 g6); clear g6 k4 l4))
          go_wp2
          go_loopw [8] (fun s8 wq => ∃ (i : Nat), s8 = .int .i64 (i : Int) ∧ i ≤ cn2 ∧ w6.grownBy wq none) (fun s8 _ => cn2 - (intOf s8).toNat)
          case atStart => exact ⟨0, rfl, Nat.zero_le _, gb_refl _ _⟩
          case round =>
            obtain ⟨i, rfl, hi, hgq⟩ := hrel
            have GQ := Lib.hid hgq
            have Y1 := Lib.hid (U1.out.keep0 hgq)
            have Y2 := Lib.hid (U2.out.keep0 hgq)
            have GT := Lib.hid (gb_trans G6.out hgq)
            clear hgq
            have p2 := Y1.out.cell 2
            have q2 := Y2.out.cell 2
            dsimp at p2 q2
            by_cases hil : i < cn2
            · have i3 : (i : Int) < cn2 := by omega
              have i2 : (0 : Int) ≤ (i : Int) := by omega
              obtain ⟨nd, rfl⟩ := NX.out.some (by omega)
              obtain ⟨nd2, rfl⟩ := NY.out.some (by omega)
              obtain ⟨m0, m1, m2⟩ := NX.out.cells nd rfl i hil
              obtain ⟨o0, o1, o2⟩ := NY.out.cells nd2 rfl i hil
              generalize N.getD i nz = nn at *
              obtain ⟨n0, n1, n2⟩ := nn
              dsimp only at m0 m1 m2 o0 o1 o2
              have M0 := Lib.hid (GT.out.cell m0 (by simp))
              have M1 := Lib.hid (GT.out.cell m1 (by simp))
              have M2 := Lib.hid (GT.out.cell m2 (by simp))
              have L0 := Lib.hid (GT.out.cell o0 (by simp))
              have L1 := Lib.hid (GT.out.cell o1 (by simp))
              have L2 := Lib.hid (GT.out.cell o2 (by simp))
              clear m0 m1 m2 o0 o1 o2
              go_wp2
              have KJ := Lib.hid (fun (w' : World) (q0 : wr.grownBy w' none) => (⟨(Y1.out.keep0 q0).cell 2, (Y2.out.keep0 q0).cell 2, q0.cell M0.out (by simp), q0.cell M1.out (by simp), q0.cell M2.out (by simp), q0.cell L0.out (by simp), q0.cell L1.out (by simp), q0.cell L2.out (by simp), q0⟩ : (fun w' : World => w'.cell? ⟨b1, 2, none⟩ = some (.slice (some nd) cn2 cc) ∧ w'.cell? ⟨b2, 2, none⟩ = some (.slice (some nd2) cn2 cc2) ∧ w'.cell? (nd.add (i * 3)) = some (.int .i64 n0) ∧ w'.cell? ⟨(nd.add (i * 3)).block, (nd.add (i * 3)).off + 1, none⟩ = some (.int .i64 n1) ∧ w'.cell? ⟨(nd.add (i * 3)).block, (nd.add (i * 3)).off + 2, none⟩ = some (.int .i64 n2) ∧ w'.cell? (nd2.add (i * 3)) = some (.int .i64 n0) ∧ w'.cell? ⟨(nd2.add (i * 3)).block, (nd2.add (i * 3)).off + 1, none⟩ = some (.int .i64 n1) ∧ w'.cell? ⟨(nd2.add (i * 3)).block, (nd2.add (i * 3)).off + 2, none⟩ = some (.int .i64 n2) ∧ wr.grownBy w' none) w'))
              have J0 := Lib.hid (gb_drew wr none)
              refine wp_region_held_drew (S := (fun w' : World => w'.cell? ⟨b1, 2, none⟩ = some (.slice (some nd) cn2 cc) ∧ w'.cell? ⟨b2, 2, none⟩ = some (.slice (some nd2) cn2 cc2) ∧ w'.cell? (nd.add (i * 3)) = some (.int .i64 n0) ∧ w'.cell? ⟨(nd.add (i * 3)).block, (nd.add (i * 3)).off + 1, none⟩ = some (.int .i64 n1) ∧ w'.cell? ⟨(nd.add (i * 3)).block, (nd.add (i * 3)).off + 2, none⟩ = some (.int .i64 n2) ∧ w'.cell? (nd2.add (i * 3)) = some (.int .i64 n0) ∧ w'.cell? ⟨(nd2.add (i * 3)).block, (nd2.add (i * 3)).off + 1, none⟩ = some (.int .i64 n1) ∧ w'.cell? ⟨(nd2.add (i * 3)).block, (nd2.add (i * 3)).off + 2, none⟩ = some (.int .i64 n2) ∧ wr.grownBy w' none)) (by kernel_rfl) (KJ.out _ J0.out) (fun hH0 => ?_)
              refine wpAnyH_take (i := 0) (v := ?v14009) rfl (by kernel_rfl) (by kernel_rfl) (by kernel_rfl) (fun _ _ _ h => h) (Or.inl ⟨by rfl, ?hy14009⟩) (by assumption) ?rest14009
              case hy14009 => (intro wz hSw; (try dsimp only at hSw); first | (go_simp; done) | (go_simp; with_reducible rfl))
              try simp only [Act.put, List.getElem_toArray, List.getElem_cons_zero, List.setIfInBounds_toArray, List.set_cons_zero, List.set_cons_succ]
              refine wpAnyH_take (i := 1) (v := ?v14010) rfl (by kernel_rfl) (by kernel_rfl) (by kernel_rfl) (fun _ _ _ h => h) (Or.inl ⟨by rfl, ?hy14010⟩) (by assumption) ?rest14010
              case hy14010 => (intro wz hSw; (try dsimp only at hSw); first | (go_simp; done) | (go_simp; with_reducible rfl))
              try simp only [Act.put, List.getElem_toArray, List.getElem_cons_succ, List.getElem_cons_zero, List.setIfInBounds_toArray, List.set_cons_zero, List.set_cons_succ]
              refine wpAnyH_take (i := 2) (v := ?v14011) rfl (by kernel_rfl) (by kernel_rfl) (by kernel_rfl) (fun _ _ _ h => h) (Or.inl ⟨by rfl, ?hy14011⟩) (by assumption) ?rest14011
              case hy14011 => (intro wz hSw; (try dsimp only at hSw); first | (go_simp; done) | (go_simp; with_reducible rfl))
              try simp only [Act.put, List.getElem_toArray, List.getElem_cons_succ, List.getElem_cons_zero, List.setIfInBounds_toArray, List.set_cons_zero, List.set_cons_succ]
              refine wpAnyH_take (i := 3) (v := ?v14012) rfl (by kernel_rfl) (by kernel_rfl) (by kernel_rfl) (fun _ _ _ h => h) (Or.inl ⟨by rfl, ?hy14012⟩) (by assumption) ?rest14012
              case hy14012 => (intro wz hSw; (try dsimp only at hSw); first | (go_simp; done) | (go_simp; with_reducible rfl))
              try simp only [Act.put, List.getElem_toArray, List.getElem_cons_succ, List.getElem_cons_zero, List.setIfInBounds_toArray, List.set_cons_zero, List.set_cons_succ]
              refine wpAnyH_take (i := 4) (v := ?v14013) rfl (by kernel_rfl) (by kernel_rfl) (by kernel_rfl) (fun _ _ _ h => h) (Or.inl ⟨by rfl, ?hy14013⟩) (by assumption) ?rest14013
              case hy14013 => (intro wz hSw; (try dsimp only at hSw); first | (go_simp; done) | (go_simp; with_reducible rfl))
              try simp only [Act.put, List.getElem_toArray, List.getElem_cons_succ, List.getElem_cons_zero, List.setIfInBounds_toArray, List.set_cons_zero, List.set_cons_succ]
              refine wpAnyH_take (i := 5) (v := ?v14014) rfl (by kernel_rfl) (by kernel_rfl) (by kernel_rfl) (fun _ _ _ h => h) (Or.inl ⟨by rfl, ?hy14014⟩) (by assumption) ?rest14014
              case hy14014 => (intro wz hSw; (try dsimp only at hSw); first | (go_simp; done) | (go_simp; with_reducible rfl))
              try simp only [Act.put, List.getElem_toArray, List.getElem_cons_succ, List.getElem_cons_zero, List.setIfInBounds_toArray, List.set_cons_zero, List.set_cons_succ]
              refine wpAnyH_take (i := 6) (v := ?v14015) rfl (by kernel_rfl) (by kernel_rfl) (by kernel_rfl) (fun _ _ _ h => h) (Or.inl ⟨by rfl, ?hy14015⟩) (by assumption) ?rest14015
              case hy14015 => (intro wz hSw; (try dsimp only at hSw); first | (go_simp; done) | (go_simp; with_reducible rfl))
              try simp only [Act.put, List.getElem_toArray, List.getElem_cons_succ, List.getElem_cons_zero, List.setIfInBounds_toArray, List.set_cons_zero, List.set_cons_succ]
              refine wpAnyH_take (i := 7) (v := ?v14016) rfl (by kernel_rfl) (by kernel_rfl) (by kernel_rfl) (fun _ _ _ h => h) (Or.inl ⟨by rfl, ?hy14016⟩) (by assumption) ?rest14016
              case hy14016 => (intro wz hSw; (try dsimp only at hSw); first | (go_simp; done) | (go_simp; with_reducible rfl))
              try simp only [Act.put, List.getElem_toArray, List.getElem_cons_succ, List.getElem_cons_zero, List.setIfInBounds_toArray, List.set_cons_zero, List.set_cons_succ]
              refine wpAnyH_take (i := 8) (v := ?v14017) rfl (by kernel_rfl) (by kernel_rfl) (by kernel_rfl) (fun _ _ _ h => h) (Or.inl ⟨by rfl, ?hy14017⟩) (by assumption) ?rest14017
              case hy14017 => (intro wz hSw; (try dsimp only at hSw); first | (go_simp; done) | (go_simp; with_reducible rfl))
              try simp only [Act.put, List.getElem_toArray, List.getElem_cons_succ, List.getElem_cons_zero, List.setIfInBounds_toArray, List.set_cons_zero, List.set_cons_succ]
              refine wpAnyH_take (i := 9) (v := ?v14018) rfl (by kernel_rfl) (by kernel_rfl) (by kernel_rfl) (fun _ _ _ h => h) (Or.inl ⟨by rfl, ?hy14018⟩) (by assumption) ?rest14018
              case hy14018 => (intro wz hSw; (try dsimp only at hSw); first | (go_simp; done) | (go_simp; with_reducible rfl))
              try simp only [Act.put, List.getElem_toArray, List.getElem_cons_succ, List.getElem_cons_zero, List.setIfInBounds_toArray, List.set_cons_zero, List.set_cons_succ]
              refine wpAnyH_take (i := 10) (v := ?v14019) rfl (by kernel_rfl) (by kernel_rfl) (by kernel_rfl) (fun _ _ _ h => h) (Or.inl ⟨by rfl, ?hy14019⟩) (by assumption) ?rest14019
              case hy14019 => (intro wz hSw; (try dsimp only at hSw); first | (go_simp; done) | (go_simp; with_reducible rfl))
              try simp only [Act.put, List.getElem_toArray, List.getElem_cons_succ, List.getElem_cons_zero, List.setIfInBounds_toArray, List.set_cons_zero, List.set_cons_succ]
              refine wpAnyH_done (by kernel_rfl) ?_ _
              clear hH0
              go_wp2
              go_roundw
              case rel => exact ⟨i + 1, by go_num, by omega, gb_trans GQ.out J0.out⟩
              case measure => simp [intOf]; omega
            · have i3 : ¬ (i : Int) < cn2 := by omega
              go_wp2
              go_roundw
              case rel => exact ⟨j + 1, by go_num, by omega, GT.out⟩
              case measure => simp [intOf]; omega
      · have hje : j = un := by omega
        have i1 : ¬ (j : Int) < un := by omega
        go_wp2
        go_ret
        exact ⟨rfl, GR.out⟩
end Go.Proofs.Ytdbjeihbfooipaa
