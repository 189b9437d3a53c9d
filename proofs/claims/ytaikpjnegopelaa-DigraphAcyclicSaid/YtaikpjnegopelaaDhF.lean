/- The walk of postorder. -/
import Derived.Test.YtaikpjnegopelaaDhE
import Derived.WalkMore
namespace Go.Proofs.Ytaikpjnegopelaa
open Go.RowKit
set_option linter.unusedVariables false

def iN (O : List Nat) : List Int := O.map fun x : Nat => (x : Int)
theorem iN_len (O : List Nat) : (iN O).length = O.length := by simp [iN]
theorem iN_app (O : List Nat) (x : Nat) : iN (O ++ [x]) = iN O ++ [(x : Int)] := by simp [iN]
theorem iN_at (O : List Nat) (i : Nat) (h : i < O.length) : (iN O).getD i 0 = (O[i] : Int) := by simp [iN, h]
def kLen (w : World) (ob : Nat) : Nat := match w.cell? ⟨ob, 0, none⟩ with | some (.slice _ k _) => k | _ => 0
def unE (w : World) (eb n : Nat) : Nat := (List.range n).countP fun x => match w.cell? ⟨eb, x, none⟩ with | some (.bool b) => !b | _ => false
def fLeft (w : World) (fb v l : Nat) : Nat := match w.cell? ⟨fb, v, none⟩ with | some (.int _ z) => l - z.toNat | _ => 0
theorem count_false (E : List Bool) : (List.range E.length).countP (fun x => !(E.getD x false)) = E.count false := by
  have e : (List.range E.length).map (fun x => E.getD x false) = E := by
    apply List.ext_getElem (by simp)
    intro i h1 h2
    simp at h1
    simp [h1]
  have : E.count false = ((List.range E.length).map (fun x => E.getD x false)).count false := by rw [e]
  rw [this, List.count, List.countP_map]
  apply List.countP_congr
  intro x _
  simp
theorem unE_is {w0 w : World} {ob eb ev fb n : Nat} {VK VO : Value} {O K F : List Int} {E : List Bool} (h : PM w0 w ob eb ev fb n VK VO O K F E) : unE w eb n = E.count false := by
  rw [← count_false, ← h.el]
  unfold unE
  apply List.countP_congr
  intro x hx
  rw [List.mem_range] at hx
  rw [h.re.at_ h.el x (by rw [← h.el]; exact hx)]
theorem kLen_is {w0 w : World} {ob eb ev fb n k kc : Nat} {ka : Option Addr} {VO : Value} {O K F : List Int} {E : List Bool} (h : PM w0 w ob eb ev fb n (.slice ka k kc) VO O K F E) : kLen w ob = k := by
  have c : w.cell? ⟨ob, 0, none⟩ = some (.slice ka k kc) := h.vo.cell 0
  unfold kLen
  rw [c]
theorem kLen_is2 {w0 w : World} {ob eb ev fb n : Nat} {VK VO : Value} {O K F : List Int} {E : List Bool} (h : PM w0 w ob eb ev fb n VK VO O K F E) : kLen w ob = K.length := by
  obtain ⟨a, c, rfl⟩ := h.rk.shape
  exact kLen_is h
theorem fLeft_is {w0 w : World} {ob eb ev fb n : Nat} {VK VO : Value} {O K F : List Int} {E : List Bool} (h : PM w0 w ob eb ev fb n VK VO O K F E) (v l : Nat) (hv : v < n) : fLeft w fb v l = l - (F.getD v 0).toNat := by
  have c := h.rf.at_ h.fl v (by rw [← h.fl]; exact hv)
  unfold fLeft
  rw [c]
theorem nodup_len (L : List Nat) (n : Nat) (h : L.Nodup) (hb : ∀ x ∈ L, x < n) : L.length ≤ n := by
  induction n generalizing L with
  | zero =>
    cases L with
    | nil => simp
    | cons x t => have := hb x (by simp); omega
  | succ n ih =>
    by_cases hm : n ∈ L
    · have k := ih (L.erase n) (h.erase n) (fun x hx => by
        rw [h.mem_erase_iff] at hx
        have := hb x hx.2
        have := hx.1
        omega)
      rw [List.length_erase_of_mem hm] at k
      omega
    · have k := ih L h (fun x hx => by
        have := hb x hx
        have : x ≠ n := fun e => by subst e; exact hm hx
        omega)
      omega
theorem getD_in (L : List Int) (i : Nat) (d : Int) (h : i < L.length) : L.getD i d ∈ L := by
  rw [List.getD_eq_getElem?_getD, List.getElem?_eq_getElem h]
  exact List.getElem_mem h
theorem cntE_set (E : List Bool) : ∀ x : Nat, x < E.length → E.getD x false = false → (E.set x true).count false + 1 = E.count false := by
  induction E with
  | nil => intro x h; simp at h
  | cons y t ih =>
    intro x hx hy
    cases x with
    | zero =>
      have e : y = false := by simpa using hy
      subst e
      rw [List.set_cons_zero, List.count_cons_self, List.count_cons_of_ne (by decide)]
    | succ x =>
      have k := ih x (by simpa using hx) (by simpa using hy)
      rw [List.set_cons_succ]
      by_cases e : y = false
      · subst e; rw [List.count_cons_self, List.count_cons_self]; omega
      · rw [List.count_cons_of_ne (by simpa using e), List.count_cons_of_ne (by simpa using e)]; exact k

set_option maxRecDepth 100000 in
set_option maxHeartbeats 4000000 in
theorem post_any (w : World) (a : Option Addr) (c : Nat) (g : List (List Int)) (h : SlG w a g.length c g) (hn : g.length ≤ 1000) (hb : ∀ v, v < g.length → (g.getD v []).length ≤ 1000) :
    Calls Try.prog 49 #[.slice a g.length c] w fun e w' => ∃ (V : Value) (O : List Nat) (t : Nat → Nat), e = .returned V ∧ NL w' w.heap.size V (iN O) ∧ PO g O t ∧ w.grownBy w' none := by
  obtain ⟨j0, hj, jz0, jz1, jz2⟩ := info_parts infoBool
  obtain ⟨i0, hi, hz0, hz1, hz2⟩ := info_parts infoI64
  have HJ := Lib.hid hj
  have HI := Lib.hid hi
  have HH := Lib.hid h
  have HB := Lib.hid hb
  have hmf : ∀ (fn : Fn) (first cap : Array Value) (w : World), (Instr.makeFunc fn first cap).run Try.prog w = .ok (.func fn first cap) w := fun _ _ _ _ => rfl
  have hcf : ∀ (args : Array Value) (w : World), (callFunc 51 args).run Try.prog w = .ok (.enter 51 args) w := fun _ _ => by rfl
  have G1 := Lib.hid (gb_alloc w (.cells #[.slice none 0 0] 31) none)
  have B1 := Lib.hid (IsB.new w 31 #[.slice none 0 0])
  have S1 := Lib.hid (show (w.alloc (.cells #[.slice none 0 0] 31)).heap.size = w.heap.size + 1 from alloc_size _ _)
  clear h hb hi hj
  go_enter Try.func49, Try.ntmps49
  go_wp2_with (at_make; refine wpList_make_full _ rfl _ _ 28 rfl (w.heap.size + 1) 4 j0 (.bool false) 1 Try.underlying28 HJ.out jz0 jz1 .i64 .i64 _ _ g.length rfl rfl ?c1 ?c2 ?c3 ?c4 ?c5 ?_)
  case c1 => first | rfl | omega
  case c2 => first | rfl | omega
  case c3 => rw [jz2]; omega
  case c4 => unfold maxLen; omega
  case c5 => first | exact Nat.le_of_eq S1.out.symm | omega
  intro w2 hown hg
  have L2 := Lib.hid (IsB.lt (w := w2) (g := w.heap.size + 1) (own_blk hown).choose_spec)
  have O2 := Lib.hid (show OB w2 (w.heap.size + 1) (.slice (some ⟨w.heap.size + 1, 0, none⟩) g.length g.length) (tabB g.length fun _ => false) by
    unfold OB
    rw [tabB_len, tabB_const, List.map_replicate, ← made_zero]
    first | exact hown | simpa using hown)
  have G2 := Lib.hid (gb_trans G1.out hg)
  have B2 := Lib.hid (B1.out.keep0 hg)
  have A3 := Lib.hid (gb_alloc w2 (.cells #[.slice (some ⟨w.heap.size + 1, 0, none⟩) g.length g.length] 28) none)
  have V3 := Lib.hid (IsB.new w2 28 #[.slice (some ⟨w.heap.size + 1, 0, none⟩) g.length g.length])
  have S3 := Lib.hid (show (w2.alloc (.cells #[.slice (some ⟨w.heap.size + 1, 0, none⟩) g.length g.length] 28)).heap.size = w2.heap.size + 1 from alloc_size _ _)
  clear hown hg G1 B1 S1 jz0 jz1 jz2 HJ
  go_wp2_with (at_make; refine wpList_make_full _ rfl _ _ 31 rfl (w2.heap.size + 1) 3 i0 (.int .i64 0) 1 Try.underlying31 HI.out hz0 hz1 .i64 .i64 _ _ g.length rfl rfl ?d1 ?d2 ?d3 ?d4 ?d5 ?_)
  case d1 => first | rfl | omega
  case d2 => first | rfl | omega
  case d3 => rw [hz2]; omega
  case d4 => unfold maxLen; omega
  case d5 => first | exact Nat.le_of_eq S3.out.symm | omega
  intro w4 hown hg
  have P0 := Lib.hid (show PM w w4 w.heap.size (w.heap.size + 1) w2.heap.size (w2.heap.size + 1) g.length (.slice none 0 0) (.slice none 0 0) (iN []) (iN []) (tab g.length fun _ => 0) (tabB g.length fun _ => false) from
    ⟨Nat.le_refl _, Nat.lt_succ_self _, L2.out, Nat.lt_succ_self _, (B2.out.keep0 A3.out).keep0 hg, (O2.out.keep0 A3.out).keep0 hg, V3.out.keep0 hg, by
      unfold NL
      rw [tab_len, tab_const, List.map_replicate, ← made_zero]
      first | exact hown | simpa using hown, NL.nil _ _, NL.nil _ _, fun q e => (by cases e), gb_trans (gb_trans G2.out A3.out) hg, (tabB_len _ _).symm, (tab_len _ _).symm⟩)
  have D0 := Lib.hid (DF.start g)
  have LOW := Lib.hid P0.out.lo
  clear hown hg G2 B2 A3 V3 S3 O2 L2 hz0 hz1 hz2 HI
  obtain ⟨F0, hF0⟩ : ∃ F0, F0 = tab g.length fun _ => (0 : Int) := ⟨_, rfl⟩
  obtain ⟨E0, hE0⟩ : ∃ E0, E0 = tabB g.length fun _ => false := ⟨_, rfl⟩
  rw [← hF0, ← hE0] at P0 D0
  clear hF0 hE0
  go_wp2_with fail
  generalize w2.heap.size + 1 = fb at P0 ⊢
  generalize w2.heap.size = ev at P0 ⊢
  generalize w.heap.size + 1 = eb at P0 ⊢
  generalize hob : w.heap.size = ob at P0 LOW ⊢
  go_loopw [3, 20] (fun VO i wr => ∃ (k : Nat) (VK : Value) (O : List Nat) (F : List Int) (E : List Bool) (t : Nat → Nat), k ≤ g.length ∧ i = .int .i64 k ∧ PM w wr ob eb ev fb g.length VK VO (iN O) (iN []) F E ∧ DF g O [] F E t ∧ ∀ x : Nat, x < k → E.getD x false = true) (fun _ i _ => g.length - (intOf i).toNat)
  case atStart => exact ⟨0, _, [], _, _, _, Nat.zero_le _, rfl, P0.out, D0.out, fun x h => by omega⟩
  case round =>
    obtain ⟨k, VK, O, F, E, t, hk, rfl, q1, q2, q3⟩ := hrel
    clear P0 D0
    have P1 := Lib.hid q1
    have D1 := Lib.hid q2
    have X1 := Lib.hid q3
    clear q1 q2 q3
    obtain ⟨oa, oc, hsh⟩ := P1.out.ro.shape
    rw [iN_len] at hsh
    subst hsh
    by_cases hkt : k < g.length
    · have ik : (k : Int) < g.length := by omega
      have ce : wr.cell? ⟨ev, 0, none⟩ = some (.slice (some ⟨eb, 0, none⟩) g.length g.length) := P1.out.ve.cell 0
      have ck := P1.out.re.at_ P1.out.el k (by rw [← P1.out.el]; exact hkt)
      by_cases hek : E.getD k false = true
      · rw [hek] at ck
        have P2 := Lib.hid P1.out
        have D2 := Lib.hid D1.out
        have X2 := Lib.hid (show ∀ x : Nat, x < k + 1 → E.getD x false = true from fun x hx => by
          by_cases e : x = k
          · subst e; exact hek
          · exact X1.out x (by omega))
        clear hek
        go_wp2
        go_step3
        go_wp2
        go_step3
        go_wp2
        go_loopw [3] (fun VO wr => ∃ (VK : Value) (O K : List Nat) (F : List Int) (E : List Bool) (t : Nat → Nat), PM w wr ob eb ev fb g.length VK VO (iN O) (iN K) F E ∧ DF g O K F E t ∧ ∀ x : Nat, x < k + 1 → E.getD x false = true) (fun _ wr => 2 * unE wr eb g.length + kLen wr ob)
        case atStart => exact ⟨_, _, _, _, _, _, P2.out, D2.out, X2.out⟩
        case round =>
          obtain ⟨VK, O, K, F, E, t, q1, q2, q3⟩ := hrel
          clear P1 D1 X1 P2 D2 X2 ce ck
          have P1 := Lib.hid q1
          have D1 := Lib.hid q2
          have X1 := Lib.hid q3
          clear q1 q2 q3
          obtain ⟨oa, oc, hsh⟩ := P1.out.ro.shape
          rw [iN_len] at hsh
          subst hsh
          rcases List.eq_nil_or_concat K with hK | ⟨K2, v, hK⟩
          · subst hK
            obtain ⟨ka, kc, hsh⟩ := P1.out.rk.shape
            subst hsh
            have cK : wr.cell? ⟨ob, 0, none⟩ = some (.slice ka 0 kc) := P1.out.vo.cell 0
            go_wp2
            rw [Exit.noGoto_normal]
            go_wp2
            go_roundw
            case rel => exact ⟨k + 1, _, O, F, E, t, by omega, by go_num, P1.out, D1.out, X1.out⟩
            case measure => simp [intOf]; omega
          · rw [List.concat_eq_append] at hK
            have hvK : v ∈ K := by rw [hK]; simp
            have hvn : v < g.length := D1.out.node v (.inr hvK)
            have ivn : (v : Int) < g.length := by omega
            obtain ⟨m, hm⟩ : ∃ m, m = K2.length := ⟨_, rfl⟩
            have hkl : m + 1 = (iN K).length := by rw [iN_len, hK, hm]; simp
            have hmn : m + 1 ≤ g.length := by
              have hnd := D1.out.nd
              rw [List.nodup_append] at hnd
              have := nodup_len K g.length hnd.2.1 (fun x hx => D1.out.node x (.inr hx))
              rw [iN_len] at hkl
              omega
            have hOn : O.length ≤ g.length := by
              have hnd := D1.out.nd
              rw [List.nodup_append] at hnd
              exact nodup_len O g.length hnd.1 (fun x hx => D1.out.node x (.inl hx))
            obtain ⟨kb, kc, hsh⟩ := P1.out.rk.headn hkl (by omega)
            subst hsh
            have hcap : (iN K).length ≤ kc := by
              have q := P1.out.rk
              rw [hkl] at q
              exact own_cap q
            have hmc : m + 1 ≤ kc := by omega
            have hmc2 : m ≤ kc := by omega
            have imc : (m : Int) ≤ kc := by omega
            have hsub : ((m + 1 : Nat) : Int) - 1 = (m : Int) := by omega
            have hsub2 : (m : Int) + 1 - 1 = (m : Int) := by omega
            have im1 : (m : Int) < (m : Int) + 1 := by omega
            have im0 : (0 : Int) < (m : Int) + 1 := by omega
            have im2 : (m : Int) ≤ (m : Int) + 1 := by omega
            have im3 : (0 : Int) ≤ (m : Int) := by omega
            have cK : wr.cell? ⟨ob, 0, none⟩ = some (.slice (some ⟨kb, 0, none⟩) (m + 1) kc) := P1.out.vo.cell 0
            have cT : wr.cell? ⟨kb, m, none⟩ = some (.int .i64 (v : Int)) := by
              have q := P1.out.rk.at_ hkl m (by omega)
              have e : (iN K).getD m 0 = (v : Int) := by rw [hK, iN_app, hm, ← iN_len]; simp
              rw [e] at q
              exact q
            have M0 := Lib.hid (show 2 * unE wr eb g.length + kLen wr ob = 2 * E.count false + (m + 1) by rw [unE_is P1.out, kLen_is P1.out])
            have KE := Lib.hid hK
            have KM := Lib.hid hm
            have KL := Lib.hid hkl
            have VK := Lib.hid hvK
            clear hkl hK hm hcap hvK
            cases a with
            | none => exact absurd (HH.out.2.1 rfl).1 (by omega)
            | some ad =>
              obtain ⟨AR, CR, c0, r0, l1⟩ := HH.out.row v hvn
              have hbv := HB.out v hvn
              obtain ⟨zs, hz⟩ : ∃ zs, zs = g.getD v [] := ⟨_, rfl⟩
              rw [← hz] at c0 r0 l1 hbv
              have HZ := Lib.hid hz
              have R0 := Lib.hid r0
              have C0 := Lib.hid c0
              clear r0 hz c0
              go_wp2
              go_loopw [] (fun wr2 => ∃ (F : List Int), PM w wr2 ob eb ev fb g.length (.slice (some ⟨kb, 0, none⟩) (m + 1) kc) (.slice oa O.length oc) (iN O) (iN K) F E ∧ DF g O K F E t) (fun wr2 => fLeft wr2 fb v zs.length)
              case atStart => exact ⟨_, P1.out, D1.out⟩
              case round =>
                obtain ⟨F, q1, q2⟩ := hrel
                clear P1 D1 cK cT
                have P1 := Lib.hid q1
                have D1 := Lib.hid q2
                clear q1 q2
                have cF := P1.out.rf.at_ P1.out.fl v (by rw [← P1.out.fl]; exact hvn)
                have fF := P1.out.rf.free P1.out.fl v
                have hfr := D1.out.fr v hvn
                rw [← HZ.out] at hfr
                obtain ⟨f, hf⟩ : ∃ f : Nat, F.getD v 0 = (f : Int) := ⟨(F.getD v 0).toNat, by omega⟩
                rw [hf] at cF hfr
                have HF := Lib.hid hf
                have ML := Lib.hid (show fLeft wr fb v zs.length = zs.length - f by rw [fLeft_is P1.out v _ hvn, hf, Int.toNat_natCast])
                clear hf
                have c1 := P1.out.grown.cell C0.out (by simp)
                by_cases hft : f < zs.length
                · have ift : (f : Int) < zs.length := by omega
                  cases AR with
                  | none => exact absurd (R0.out.2.1 rfl).1 (by omega)
                  | some ar =>
                    have c2 := (R0.out.keep0 P1.out.grown).cellAt f hft
                    have hfb : f ≤ 1000 := by omega
                    obtain ⟨x, hx⟩ : ∃ x, x = zs.getD f 0 := ⟨_, rfl⟩
                    rw [← hx] at c2
                    have HX := Lib.hid (show (g.getD v []).getD f (-1) = x by rw [← HZ.out, hx]; simp [hft])
                    clear hx hfr
                    have HN := Lib.hid (fun w => isNode_any w (some ad) g.length c x)
                    have FOL := Lib.hid (fun (O K : List Nat) (E : List Bool) (t : Nat → Nat) (d : DF g O K F E t) (q : v ∈ K) (k : ∀ z : Nat, z < g.length → x = (z : Int) → z ∈ O ∨ z ∈ K) => d.follow hvn (.inr q) HF.out (by rw [← HZ.out]; exact hft) (fun z hz e => k z hz (by rw [← HX.out]; exact e)))
                    by_cases hnode : 0 ≤ x ∧ x < (g.length : Int)
                    · simp only [decide_eq_true hnode] at HN
                      obtain ⟨xn, rfl⟩ : ∃ xn : Nat, x = (xn : Int) := ⟨x.toNat, by omega⟩
                      have hxn : xn < g.length := by omega
                      have ix : (xn : Int) < g.length := by omega
                      clear hnode
                      have hne1 : eb ≠ fb := by have := P1.out.o2; have := P1.out.o3; omega
                      have hne2 : fb ≠ eb := fun e => hne1 e.symm
                      have hne3 : ev ≠ fb := by have := P1.out.o3; omega
                      have hne4 : fb ≠ ev := fun e => hne3 e.symm
                      have ce : wr.cell? ⟨ev, 0, none⟩ = some (.slice (some ⟨eb, 0, none⟩) g.length g.length) := P1.out.ve.cell 0
                      have cx := P1.out.re.at_ P1.out.el xn (by rw [← P1.out.el]; exact hxn)
                      have hvl : v < F.length := by rw [← P1.out.fl]; exact hvn
                      have P2 := Lib.hid (fun q1 => (P1.out.keep (gb_drewN wr q1 none)).setF v ((f : Int) + 1))
                      by_cases hex : E.getD xn false = true
                      · rw [hex] at cx
                        have hin := (D1.out.ent xn hxn).1 hex
                        have D2 := Lib.hid (FOL.out O K E t D1.out VK.out (fun z hz e => by
                          have e2 : xn = z := by omega
                          rw [← e2]
                          exact hin))
                        clear hin
                        clear hex
                        go_wp2
                        go_quiet (fail)
                        go_wp2
                        go_quiet (fail)
                        go_wp2_with fail
                        refine (HN.out _).mono ?_
                        rintro e w6 ⟨rfl, rfl⟩
                        go_wp2
                        go_roundw
                        case rel => exact ⟨_, P2.out _, D2.out⟩
                        case measure => rw [ML.out, fLeft_is (P2.out _) v _ hvn, getD_set_on _ _ _ hvl]; omega
                      · have hex2 : E.getD xn false = false := by simpa using hex
                        rw [hex2] at cx
                        have hnk : ¬ (xn ∈ O ∨ xn ∈ K) := fun q => hex ((D1.out.ent xn hxn).2 q)
                        have EL := Lib.hid (cntE_set E xn (by rw [← P1.out.el]; exact hxn) hex2)
                        have D2 := Lib.hid (FOL.out O (K ++ [xn]) _ _ (D1.out.enter hxn hnk (fun u hu => by
                          rw [KE.out] at hu
                          have hve : Rch g v xn := Rch.edge hvn hxn ((gEdge_mem g v xn hvn hxn).2 (by
                            have e := HX.out
                            rw [← e]
                            have hfl : f < (g.getD v []).length := by rw [← HZ.out]; exact hft
                            exact getD_in _ _ _ hfl))
                          rcases List.mem_append.1 hu with q | q
                          · obtain ⟨s, hs⟩ := List.getElem?_of_mem q
                            have hsl := (List.getElem?_eq_some_iff.1 hs).1
                            exact (D1.out.kk s u (by rw [KE.out, List.getElem?_append_left hsl]; exact hs) K2.length v (by omega) (by rw [KE.out, List.getElem?_append_right (Nat.le_refl _)]; simp)).1.trans hve
                          · simp at q; subst q; exact hve)) (List.mem_append.2 (.inl VK.out)) (fun z hz e => by
                            have e2 : xn = z := by omega
                            subst e2
                            exact .inr (by simp)))
                        have X2 := Lib.hid (show ∀ x : Nat, x < k + 1 → (E.set xn true).getD x false = true from fun x hx => by
                          have := X1.out x hx
                          by_cases e : x = xn
                          · subst e; exact absurd this hex
                          · have e2 : (E.set xn true).getD x false = E.getD x false := by simp [List.getD_eq_getElem?_getD, List.getElem?_set_ne (Ne.symm e)]
                            rw [e2]; exact this)
                        have EN := Lib.hid (fun q1 => enter_any w _ ob eb ev fb g.length _ _ _ _ _ _ xn (P2.out q1) hxn (by have := KL.out; omega))
                        clear hex hex2 hnk
                        go_wp2
                        go_quiet (fail)
                        go_wp2
                        go_quiet (fail)
                        go_wp2_with fail
                        refine (HN.out _).mono ?_
                        rintro e w6 ⟨rfl, rfl⟩
                        go_wp2_with fail
                        refine (EN.out _).mono ?_
                        rintro e w7 ⟨rfl, VK7, p7⟩
                        have P7 := Lib.hid (show PM w w7 ob eb ev fb g.length VK7 _ (iN O) (iN (K ++ [xn])) _ _ by rw [iN_app]; exact p7)
                        clear p7 EN
                        go_wp2
                        go_roundw
                        case rel => exact ⟨_, _, _, _, _, _, P7.out, D2.out, X2.out⟩
                        case measure =>
                          rw [M0.out, unE_is P7.out, kLen_is2 P7.out]
                          have e1 := EL.out
                          have e2 := KL.out
                          rw [iN_len] at e2
                          simp [iN]
                          omega
                    · simp only [decide_eq_false hnode] at HN
                      have D2 := Lib.hid (FOL.out O K E t D1.out VK.out (fun z hz e => absurd ⟨by omega, by omega⟩ hnode))
                      have hvl : v < F.length := by rw [← P1.out.fl]; exact hvn
                      have P2 := Lib.hid (fun q1 => (P1.out.keep (gb_drewN wr q1 none)).setF v ((f : Int) + 1))
                      clear hnode
                      go_wp2
                      go_quiet (fail)
                      go_wp2
                      go_quiet (fail)
                      go_wp2_with fail
                      refine (HN.out _).mono ?_
                      rintro e w6 ⟨rfl, rfl⟩
                      go_wp2
                      go_roundw
                      case rel => exact ⟨_, P2.out _, D2.out⟩
                      case measure => rw [ML.out, fLeft_is (P2.out _) v _ hvn, getD_set_on _ _ _ hvl]; omega
                · have hfe : f = zs.length := by omega
                  have ift : ¬ (f : Int) < zs.length := by omega
                  have D2 := Lib.hid (DF.leave (v := v) (K := K2) (by rw [← KE.out]; exact D1.out) (by rw [HF.out, hfe, HZ.out]))
                  have cK : wr.cell? ⟨ob, 0, none⟩ = some (.slice (some ⟨kb, 0, none⟩) (m + 1) kc) := P1.out.vo.cell 0
                  have fK := P1.out.vo.free 0
                  have P3 := Lib.hid (fun q => (P1.out.keep (gb_drewN wr q none)).setK (VK2 := .slice (some ⟨kb, 0, none⟩) m kc) (K2 := iN K2) (gb_refl _ _) (by
                    have k := (P1.out.keep (gb_drewN wr q none)).rk.pre KL.out m (by omega)
                    have e : (iN K).take m = iN K2 := by rw [KE.out, iN_app, KM.out, ← iN_len]; simp
                    rw [e] at k
                    exact k) (.inl rfl))
                  have hOl : (iN O).length + 1 ≤ 1000000 := by rw [iN_len]; omega
                  clear hfr
                  go_wp2
                  go_quiet (fail)
                  go_wp2_with (at_builtin; refine npush_fresh rfl _ _ rfl (fb + 1) _ (iN O) rfl ((P3.out _).ro.keep0 (gb_alloc _ _ _)) _ _ (v : Int) rfl (slr_one _ _ _ _ _ (by simp [World.setCell])) hOl (Nat.le_trans (nl_lt (P3.out _).rf (q := fb) rfl).2 (gb_alloc _ _ none).size) ?_)
                  intro V5 w5 o5 g5 n5
                  have P6 := Lib.hid (show PM w w5 ob eb ev fb g.length (.slice (some ⟨kb, 0, none⟩) m kc) V5 (iN (O ++ [v])) (iN K2) F E by
                    rw [iN_app]
                    rcases n5 with e | e
                    · exact ((P3.out _).keep (gb_alloc _ _ _)).outp o5 g5 (.inl e)
                    · exact ((P3.out _).keep (gb_alloc _ _ _)).outp o5 g5 (.inr (by rw [e]; first | rfl | simp [World.setCell, World.alloc])))
                  obtain ⟨ao5, co5, hsh⟩ := o5.shape
                  obtain ⟨lo, hlo⟩ : ∃ lo, lo = (iN O ++ [(v : Int)]).length := ⟨_, rfl⟩
                  rw [← hlo] at hsh
                  subst hsh
                  clear hlo o5 g5 n5 P3
                  go_wp2
                  go_roundw
                  case rel => exact ⟨_, _, _, _, _, _, P6.out, D2.out, X1.out⟩
                  case measure => rw [M0.out, unE_is P6.out, kLen_is P6.out]; omega
      · have hek2 : E.getD k false = false := by simpa using hek
        rw [hek2] at ck
        have hnk : ¬ (k ∈ O ∨ k ∈ ([] : List Nat)) := fun q => hek ((D1.out.ent k hkt).2 q)
        have D2 := Lib.hid (D1.out.enter hkt hnk (fun v hv => by simp at hv))
        have X2 := Lib.hid (show ∀ x : Nat, x < k + 1 → (E.set k true).getD x false = true from fun x hx => by
          by_cases e : x = k
          · subst e; have := D1.out.el; simp [show x < E.length by omega]
          · have e2 : (E.set k true).getD x false = E.getD x false := by simp [List.getD_eq_getElem?_getD, List.getElem?_set_ne (Ne.symm e)]
            rw [e2]; exact X1.out x (by omega))
        have EN := Lib.hid (enter_any w wr ob eb ev fb g.length VK _ _ _ _ _ k P1.out hkt (by simp [iN]))
        clear hek hek2 hnk
        go_wp2
        go_step3
        go_wp2_with fail
        refine EN.out.mono ?_
        rintro e w5 ⟨rfl, VK5, p5⟩
        have P2 := Lib.hid (show PM w w5 ob eb ev fb g.length VK5 _ (iN O) (iN ([] ++ [k])) F _ by rw [iN_app]; exact p5)
        clear p5 EN
        go_wp2
        go_step3
        go_wp2
        go_loopw [3] (fun VO wr => ∃ (VK : Value) (O K : List Nat) (F : List Int) (E : List Bool) (t : Nat → Nat), PM w wr ob eb ev fb g.length VK VO (iN O) (iN K) F E ∧ DF g O K F E t ∧ ∀ x : Nat, x < k + 1 → E.getD x false = true) (fun _ wr => 2 * unE wr eb g.length + kLen wr ob)
        case atStart => exact ⟨_, _, _, _, _, _, P2.out, D2.out, X2.out⟩
        case round =>
          obtain ⟨VK, O, K, F, E, t, q1, q2, q3⟩ := hrel
          clear P1 D1 X1 P2 D2 X2 ce ck
          have P1 := Lib.hid q1
          have D1 := Lib.hid q2
          have X1 := Lib.hid q3
          clear q1 q2 q3
          obtain ⟨oa, oc, hsh⟩ := P1.out.ro.shape
          rw [iN_len] at hsh
          subst hsh
          rcases List.eq_nil_or_concat K with hK | ⟨K2, v, hK⟩
          · subst hK
            obtain ⟨ka, kc, hsh⟩ := P1.out.rk.shape
            subst hsh
            have cK : wr.cell? ⟨ob, 0, none⟩ = some (.slice ka 0 kc) := P1.out.vo.cell 0
            go_wp2
            rw [Exit.noGoto_normal]
            go_wp2
            go_roundw
            case rel => exact ⟨k + 1, _, O, F, E, t, by omega, by go_num, P1.out, D1.out, X1.out⟩
            case measure => simp [intOf]; omega
          · rw [List.concat_eq_append] at hK
            have hvK : v ∈ K := by rw [hK]; simp
            have hvn : v < g.length := D1.out.node v (.inr hvK)
            have ivn : (v : Int) < g.length := by omega
            obtain ⟨m, hm⟩ : ∃ m, m = K2.length := ⟨_, rfl⟩
            have hkl : m + 1 = (iN K).length := by rw [iN_len, hK, hm]; simp
            have hmn : m + 1 ≤ g.length := by
              have hnd := D1.out.nd
              rw [List.nodup_append] at hnd
              have := nodup_len K g.length hnd.2.1 (fun x hx => D1.out.node x (.inr hx))
              rw [iN_len] at hkl
              omega
            have hOn : O.length ≤ g.length := by
              have hnd := D1.out.nd
              rw [List.nodup_append] at hnd
              exact nodup_len O g.length hnd.1 (fun x hx => D1.out.node x (.inl hx))
            obtain ⟨kb, kc, hsh⟩ := P1.out.rk.headn hkl (by omega)
            subst hsh
            have hcap : (iN K).length ≤ kc := by
              have q := P1.out.rk
              rw [hkl] at q
              exact own_cap q
            have hmc : m + 1 ≤ kc := by omega
            have hmc2 : m ≤ kc := by omega
            have imc : (m : Int) ≤ kc := by omega
            have hsub : ((m + 1 : Nat) : Int) - 1 = (m : Int) := by omega
            have hsub2 : (m : Int) + 1 - 1 = (m : Int) := by omega
            have im1 : (m : Int) < (m : Int) + 1 := by omega
            have im0 : (0 : Int) < (m : Int) + 1 := by omega
            have im2 : (m : Int) ≤ (m : Int) + 1 := by omega
            have im3 : (0 : Int) ≤ (m : Int) := by omega
            have cK : wr.cell? ⟨ob, 0, none⟩ = some (.slice (some ⟨kb, 0, none⟩) (m + 1) kc) := P1.out.vo.cell 0
            have cT : wr.cell? ⟨kb, m, none⟩ = some (.int .i64 (v : Int)) := by
              have q := P1.out.rk.at_ hkl m (by omega)
              have e : (iN K).getD m 0 = (v : Int) := by rw [hK, iN_app, hm, ← iN_len]; simp
              rw [e] at q
              exact q
            have M0 := Lib.hid (show 2 * unE wr eb g.length + kLen wr ob = 2 * E.count false + (m + 1) by rw [unE_is P1.out, kLen_is P1.out])
            have KE := Lib.hid hK
            have KM := Lib.hid hm
            have KL := Lib.hid hkl
            have VK := Lib.hid hvK
            clear hkl hK hm hcap hvK
            cases a with
            | none => exact absurd (HH.out.2.1 rfl).1 (by omega)
            | some ad =>
              obtain ⟨AR, CR, c0, r0, l1⟩ := HH.out.row v hvn
              have hbv := HB.out v hvn
              obtain ⟨zs, hz⟩ : ∃ zs, zs = g.getD v [] := ⟨_, rfl⟩
              rw [← hz] at c0 r0 l1 hbv
              have HZ := Lib.hid hz
              have R0 := Lib.hid r0
              have C0 := Lib.hid c0
              clear r0 hz c0
              go_wp2
              go_loopw [] (fun wr2 => ∃ (F : List Int), PM w wr2 ob eb ev fb g.length (.slice (some ⟨kb, 0, none⟩) (m + 1) kc) (.slice oa O.length oc) (iN O) (iN K) F E ∧ DF g O K F E t) (fun wr2 => fLeft wr2 fb v zs.length)
              case atStart => exact ⟨_, P1.out, D1.out⟩
              case round =>
                obtain ⟨F, q1, q2⟩ := hrel
                clear P1 D1 cK cT
                have P1 := Lib.hid q1
                have D1 := Lib.hid q2
                clear q1 q2
                have cF := P1.out.rf.at_ P1.out.fl v (by rw [← P1.out.fl]; exact hvn)
                have fF := P1.out.rf.free P1.out.fl v
                have hfr := D1.out.fr v hvn
                rw [← HZ.out] at hfr
                obtain ⟨f, hf⟩ : ∃ f : Nat, F.getD v 0 = (f : Int) := ⟨(F.getD v 0).toNat, by omega⟩
                rw [hf] at cF hfr
                have HF := Lib.hid hf
                have ML := Lib.hid (show fLeft wr fb v zs.length = zs.length - f by rw [fLeft_is P1.out v _ hvn, hf, Int.toNat_natCast])
                clear hf
                have c1 := P1.out.grown.cell C0.out (by simp)
                by_cases hft : f < zs.length
                · have ift : (f : Int) < zs.length := by omega
                  cases AR with
                  | none => exact absurd (R0.out.2.1 rfl).1 (by omega)
                  | some ar =>
                    have c2 := (R0.out.keep0 P1.out.grown).cellAt f hft
                    have hfb : f ≤ 1000 := by omega
                    obtain ⟨x, hx⟩ : ∃ x, x = zs.getD f 0 := ⟨_, rfl⟩
                    rw [← hx] at c2
                    have HX := Lib.hid (show (g.getD v []).getD f (-1) = x by rw [← HZ.out, hx]; simp [hft])
                    clear hx hfr
                    have HN := Lib.hid (fun w => isNode_any w (some ad) g.length c x)
                    have FOL := Lib.hid (fun (O K : List Nat) (E : List Bool) (t : Nat → Nat) (d : DF g O K F E t) (q : v ∈ K) (k : ∀ z : Nat, z < g.length → x = (z : Int) → z ∈ O ∨ z ∈ K) => d.follow hvn (.inr q) HF.out (by rw [← HZ.out]; exact hft) (fun z hz e => k z hz (by rw [← HX.out]; exact e)))
                    by_cases hnode : 0 ≤ x ∧ x < (g.length : Int)
                    · simp only [decide_eq_true hnode] at HN
                      obtain ⟨xn, rfl⟩ : ∃ xn : Nat, x = (xn : Int) := ⟨x.toNat, by omega⟩
                      have hxn : xn < g.length := by omega
                      have ix : (xn : Int) < g.length := by omega
                      clear hnode
                      have hne1 : eb ≠ fb := by have := P1.out.o2; have := P1.out.o3; omega
                      have hne2 : fb ≠ eb := fun e => hne1 e.symm
                      have hne3 : ev ≠ fb := by have := P1.out.o3; omega
                      have hne4 : fb ≠ ev := fun e => hne3 e.symm
                      have ce : wr.cell? ⟨ev, 0, none⟩ = some (.slice (some ⟨eb, 0, none⟩) g.length g.length) := P1.out.ve.cell 0
                      have cx := P1.out.re.at_ P1.out.el xn (by rw [← P1.out.el]; exact hxn)
                      have hvl : v < F.length := by rw [← P1.out.fl]; exact hvn
                      have P2 := Lib.hid (fun q1 => (P1.out.keep (gb_drewN wr q1 none)).setF v ((f : Int) + 1))
                      by_cases hex : E.getD xn false = true
                      · rw [hex] at cx
                        have hin := (D1.out.ent xn hxn).1 hex
                        have D2 := Lib.hid (FOL.out O K E t D1.out VK.out (fun z hz e => by
                          have e2 : xn = z := by omega
                          rw [← e2]
                          exact hin))
                        clear hin
                        clear hex
                        go_wp2
                        go_quiet (fail)
                        go_wp2
                        go_quiet (fail)
                        go_wp2_with fail
                        refine (HN.out _).mono ?_
                        rintro e w6 ⟨rfl, rfl⟩
                        go_wp2
                        go_roundw
                        case rel => exact ⟨_, P2.out _, D2.out⟩
                        case measure => rw [ML.out, fLeft_is (P2.out _) v _ hvn, getD_set_on _ _ _ hvl]; omega
                      · have hex2 : E.getD xn false = false := by simpa using hex
                        rw [hex2] at cx
                        have hnk : ¬ (xn ∈ O ∨ xn ∈ K) := fun q => hex ((D1.out.ent xn hxn).2 q)
                        have EL := Lib.hid (cntE_set E xn (by rw [← P1.out.el]; exact hxn) hex2)
                        have D2 := Lib.hid (FOL.out O (K ++ [xn]) _ _ (D1.out.enter hxn hnk (fun u hu => by
                          rw [KE.out] at hu
                          have hve : Rch g v xn := Rch.edge hvn hxn ((gEdge_mem g v xn hvn hxn).2 (by
                            have e := HX.out
                            rw [← e]
                            have hfl : f < (g.getD v []).length := by rw [← HZ.out]; exact hft
                            exact getD_in _ _ _ hfl))
                          rcases List.mem_append.1 hu with q | q
                          · obtain ⟨s, hs⟩ := List.getElem?_of_mem q
                            have hsl := (List.getElem?_eq_some_iff.1 hs).1
                            exact (D1.out.kk s u (by rw [KE.out, List.getElem?_append_left hsl]; exact hs) K2.length v (by omega) (by rw [KE.out, List.getElem?_append_right (Nat.le_refl _)]; simp)).1.trans hve
                          · simp at q; subst q; exact hve)) (List.mem_append.2 (.inl VK.out)) (fun z hz e => by
                            have e2 : xn = z := by omega
                            subst e2
                            exact .inr (by simp)))
                        have X2 := Lib.hid (show ∀ x : Nat, x < k + 1 → (E.set xn true).getD x false = true from fun x hx => by
                          have := X1.out x hx
                          by_cases e : x = xn
                          · subst e; exact absurd this hex
                          · have e2 : (E.set xn true).getD x false = E.getD x false := by simp [List.getD_eq_getElem?_getD, List.getElem?_set_ne (Ne.symm e)]
                            rw [e2]; exact this)
                        have EN := Lib.hid (fun q1 => enter_any w _ ob eb ev fb g.length _ _ _ _ _ _ xn (P2.out q1) hxn (by have := KL.out; omega))
                        clear hex hex2 hnk
                        go_wp2
                        go_quiet (fail)
                        go_wp2
                        go_quiet (fail)
                        go_wp2_with fail
                        refine (HN.out _).mono ?_
                        rintro e w6 ⟨rfl, rfl⟩
                        go_wp2_with fail
                        refine (EN.out _).mono ?_
                        rintro e w7 ⟨rfl, VK7, p7⟩
                        have P7 := Lib.hid (show PM w w7 ob eb ev fb g.length VK7 _ (iN O) (iN (K ++ [xn])) _ _ by rw [iN_app]; exact p7)
                        clear p7 EN
                        go_wp2
                        go_roundw
                        case rel => exact ⟨_, _, _, _, _, _, P7.out, D2.out, X2.out⟩
                        case measure =>
                          rw [M0.out, unE_is P7.out, kLen_is2 P7.out]
                          have e1 := EL.out
                          have e2 := KL.out
                          rw [iN_len] at e2
                          simp [iN]
                          omega
                    · simp only [decide_eq_false hnode] at HN
                      have D2 := Lib.hid (FOL.out O K E t D1.out VK.out (fun z hz e => absurd ⟨by omega, by omega⟩ hnode))
                      have hvl : v < F.length := by rw [← P1.out.fl]; exact hvn
                      have P2 := Lib.hid (fun q1 => (P1.out.keep (gb_drewN wr q1 none)).setF v ((f : Int) + 1))
                      clear hnode
                      go_wp2
                      go_quiet (fail)
                      go_wp2
                      go_quiet (fail)
                      go_wp2_with fail
                      refine (HN.out _).mono ?_
                      rintro e w6 ⟨rfl, rfl⟩
                      go_wp2
                      go_roundw
                      case rel => exact ⟨_, P2.out _, D2.out⟩
                      case measure => rw [ML.out, fLeft_is (P2.out _) v _ hvn, getD_set_on _ _ _ hvl]; omega
                · have hfe : f = zs.length := by omega
                  have ift : ¬ (f : Int) < zs.length := by omega
                  have D2 := Lib.hid (DF.leave (v := v) (K := K2) (by rw [← KE.out]; exact D1.out) (by rw [HF.out, hfe, HZ.out]))
                  have cK : wr.cell? ⟨ob, 0, none⟩ = some (.slice (some ⟨kb, 0, none⟩) (m + 1) kc) := P1.out.vo.cell 0
                  have fK := P1.out.vo.free 0
                  have P3 := Lib.hid (fun q => (P1.out.keep (gb_drewN wr q none)).setK (VK2 := .slice (some ⟨kb, 0, none⟩) m kc) (K2 := iN K2) (gb_refl _ _) (by
                    have k := (P1.out.keep (gb_drewN wr q none)).rk.pre KL.out m (by omega)
                    have e : (iN K).take m = iN K2 := by rw [KE.out, iN_app, KM.out, ← iN_len]; simp
                    rw [e] at k
                    exact k) (.inl rfl))
                  have hOl : (iN O).length + 1 ≤ 1000000 := by rw [iN_len]; omega
                  clear hfr
                  go_wp2
                  go_quiet (fail)
                  go_wp2_with (at_builtin; refine npush_fresh rfl _ _ rfl (fb + 1) _ (iN O) rfl ((P3.out _).ro.keep0 (gb_alloc _ _ _)) _ _ (v : Int) rfl (slr_one _ _ _ _ _ (by simp [World.setCell])) hOl (Nat.le_trans (nl_lt (P3.out _).rf (q := fb) rfl).2 (gb_alloc _ _ none).size) ?_)
                  intro V5 w5 o5 g5 n5
                  have P6 := Lib.hid (show PM w w5 ob eb ev fb g.length (.slice (some ⟨kb, 0, none⟩) m kc) V5 (iN (O ++ [v])) (iN K2) F E by
                    rw [iN_app]
                    rcases n5 with e | e
                    · exact ((P3.out _).keep (gb_alloc _ _ _)).outp o5 g5 (.inl e)
                    · exact ((P3.out _).keep (gb_alloc _ _ _)).outp o5 g5 (.inr (by rw [e]; first | rfl | simp [World.setCell, World.alloc])))
                  obtain ⟨ao5, co5, hsh⟩ := o5.shape
                  obtain ⟨lo, hlo⟩ : ∃ lo, lo = (iN O ++ [(v : Int)]).length := ⟨_, rfl⟩
                  rw [← hlo] at hsh
                  subst hsh
                  clear hlo o5 g5 n5 P3
                  go_wp2
                  go_roundw
                  case rel => exact ⟨_, _, _, _, _, _, P6.out, D2.out, X1.out⟩
                  case measure => rw [M0.out, unE_is P6.out, kLen_is P6.out]; omega
    · have hke : k = g.length := by omega
      subst hke
      have PF := Lib.hid (D1.out.done X1.out)
      go_wp2
      go_ret
      exact ⟨_, O, t, rfl, own_low P1.out.ro (by have := P1.out.lo; have := P1.out.o1; have := P1.out.o2; have := P1.out.o3; omega), PF.out, P1.out.grown⟩
end Go.Proofs.Ytaikpjnegopelaa
