/- The walk of AuthBack: what a chain signs it opens. -/
import Derived.Test.YtjjgbcjgmjggnaaGreatAuTwo
import Derived.Test.YtjjgbcjgmjggnaaGreatAuSecW
import Derived.Test.YtjjgbcjgmjggnaaGreatPkEq
import Derived.Test.YtjjgbcjgmjggnaaGreatPkRows
namespace Go.Proofs.YtjjgbcjgmjggnaaGreat
open Go.RowKit
set_option linter.unusedVariables false
set_option maxRecDepth 100000

attribute [local go_sem ↓] Go.wp_at_zero Go.wp_at_succ
theorem chain_none (w : World) : ChainAt w (.slice none 0 0) [] := ⟨⟨rfl, Or.inl ⟨rfl, rfl⟩⟩, by simp⟩
theorem pure_at {ls : List KE} {j : Nat} {x : KE} (h : ls[j]? = some x) : (pureL ls)[j]? = some x.p := by simp [pureL, h]
set_option maxHeartbeats 8000000 in
theorem back8_any (C : PkC) (ok : C.Ok) (sz : C.Sz) (ks : List KE) (now seq : Int) (vn vd vk vs vh vl : Value) (w : World) (hp : PkAt w C vn vd vk vs vh) (hc : ChainAt w vl ks) (hz : ∀ x ∈ ks, x.p.sec.length ≤ 140737488355328) (hkl : ks.length ≤ 140737488355328) (hs : 0 ≤ seq ∧ seq < 4294967296) :
    Calls Tryz.prog 3 #[C.P.v vn vd vk vs vh, vl, .int .i64 now, .int .u32 seq] w fun e w' => e = .returned (.bool true) ∧ Touch (fun _ => False) w w' := by
  have HSZ := fun w' (t : Touch (fun _ => False) w w') => spacketP C sz vn vd vk vs vh w' (hp.keep t)
  have HPA : Hid (∀ w', Touch (fun _ => False) w w' → PkAt w' C vn vd vk vs vh) := fun w' t => hp.keep t
  have HHV := fun w' (t : Touch (fun _ => False) w w') => heavy_any (.slice none 0 0) vl 0 ks w' none 0 rfl (by omega) (hc.keep t) hz hkl
  have HCH : Hid (∀ w', Touch (fun _ => False) w w' → ChainAt w' vl ks) := fun w' t => hc.keep t
  obtain ⟨na, nc, da, dc, ka, kc, sa, sc, ha, hcc, rfl, rfl, rfl, rfl, rfl⟩ := hp.forms
  obtain ⟨la, lc, rfl, -⟩ := ValsAt.form hc.vals
  have OK : Hid C.Ok := ok
  have HSQ : Hid (0 ≤ seq ∧ seq < 4294967296) := hs
  clear hp sz ok hc hz hkl hs
  unfold PV.v at HSZ ⊢
  obtain ⟨W0, hW0⟩ : ∃ W0, W0 = w.alloc (.cells #[.int .u8 C.P.typ, .int .u32 C.P.router, .int .u32 C.P.area, .int .u32 C.P.mask, .int .u16 C.P.iv, .int .u8 C.P.opts, .int .u8 C.P.prio, .int .u32 C.P.dead, .int .u32 C.P.dr, .int .u32 C.P.bdr, .slice na C.nb.length nc, .int .u16 C.P.mtu, .int .u8 C.P.dopts, .int .u8 C.P.dflags, .int .u32 C.P.dseq, .slice da C.dh.length dc, .slice ka C.ks.length kc, .slice sa C.ss.length sc, .slice ha C.hs.length hcc] 33) := ⟨_, rfl⟩
  have T0 : Hid (Touch (fun _ => False) w W0) := by show Touch _ _ _; rw [hW0]; exact (Touch.refl _ w).alloc _
  have R0 : Row W0 w.heap.size 33 [.int .u8 C.P.typ, .int .u32 C.P.router, .int .u32 C.P.area, .int .u32 C.P.mask, .int .u16 C.P.iv, .int .u8 C.P.opts, .int .u8 C.P.prio, .int .u32 C.P.dead, .int .u32 C.P.dr, .int .u32 C.P.bdr, .slice na C.nb.length nc, .int .u16 C.P.mtu, .int .u8 C.P.dopts, .int .u8 C.P.dflags, .int .u32 C.P.dseq, .slice da C.dh.length dc, .slice ka C.ks.length kc, .slice sa C.ss.length sc, .slice ha C.hs.length hcc] := by rw [hW0]; exact row_new w 33 #[.int .u8 C.P.typ, .int .u32 C.P.router, .int .u32 C.P.area, .int .u32 C.P.mask, .int .u16 C.P.iv, .int .u8 C.P.opts, .int .u8 C.P.prio, .int .u32 C.P.dead, .int .u32 C.P.dr, .int .u32 C.P.bdr, .slice na C.nb.length nc, .int .u16 C.P.mtu, .int .u8 C.P.dopts, .int .u8 C.P.dflags, .int .u32 C.P.dseq, .slice da C.dh.length dc, .slice ka C.ks.length kc, .slice sa C.ss.length sc, .slice ha C.hs.length hcc]
  have HR0 : Hid (∀ w', Touch (fun _ => False) W0 w' → Row w' w.heap.size 33 [.int .u8 C.P.typ, .int .u32 C.P.router, .int .u32 C.P.area, .int .u32 C.P.mask, .int .u16 C.P.iv, .int .u8 C.P.opts, .int .u8 C.P.prio, .int .u32 C.P.dead, .int .u32 C.P.dr, .int .u32 C.P.bdr, .slice na C.nb.length nc, .int .u16 C.P.mtu, .int .u8 C.P.dopts, .int .u8 C.P.dflags, .int .u32 C.P.dseq, .slice da C.dh.length dc, .slice ka C.ks.length kc, .slice sa C.ss.length sc, .slice ha C.hs.length hcc]) := fun w' t => R0.keep t
  clear R0
  go_enter Tryz.func3, Tryz.ntmps3
  go_upto_region 1 with fail
  rw [← hW0]
  clear hW0
  go_wp2_with fail
  refine Calls.mono (HHV W0 T0.out) ?_
  rintro e w1 ⟨hv, hw1⟩
  subst hw1
  obtain ⟨b, rfl, hb⟩ := hv.out
  have HB : Hid (b = false → 0 + hsum ks ≤ 131072) := hb
  clear hv hb HHV
  cases b
  rotate_left
  · clear HB
    go_wp2_with fail
    refine (lives8 _).mono ?_
    rintro e wz ⟨rfl, tz⟩
    have T9 : Hid (Touch (fun _ => False) w wz) := T0.out.trans tz
    clear tz
    go_wp2_with fail
    go_ret
    exact ⟨rfl, T9.out⟩
  have HS : Hid (hsum ks ≤ 131072) := by have := HB.out rfl; show _ ≤ _; omega
  clear HB
  have R1 := (HR0.out W0 (Touch.refl _ _)).range
  generalize hg2 : w.heap.size = g2 at *
  go_wp2_with (first | refine wpList_load_mid_g (by rfl) 33 (.tmp 4) rfl g2 0 rfl [.int .u8 C.P.typ, .int .u32 C.P.router, .int .u32 C.P.area, .int .u32 C.P.mask, .int .u16 C.P.iv, .int .u8 C.P.opts, .int .u8 C.P.prio, .int .u32 C.P.dead, .int .u32 C.P.dr, .int .u32 C.P.bdr, .slice na C.nb.length nc, .int .u16 C.P.mtu, .int .u8 C.P.dopts, .int .u8 C.P.dflags, .int .u32 C.P.dseq, .slice da C.dh.length dc, .slice ka C.ks.length kc, .slice sa C.ss.length sc, .slice ha C.hs.length hcc] _ R1 Tryz.underlying33 rfl (by kernel_rfl) ?_)
  refine Calls.mono (HSZ W0 T0.out) ?_
  rintro e w2 ⟨N, rfl, hN, t2⟩
  have T2 : Hid (Touch (fun _ => False) W0 w2) := t2
  clear t2 R1 HSZ
  by_cases hN4 : 32768 < N
  · have hN4' : (32768 : Int) < (N : Int) := by omega
    clear hN
    go_wp2_with fail
    refine (lives8 _).mono ?_
    rintro e wz ⟨rfl, tz⟩
    have T9 : Hid (Touch (fun _ => False) w wz) := (T0.out.trans T2.out).trans tz
    clear tz
    go_wp2_with fail
    go_ret
    exact ⟨rfl, T9.out⟩
  have hN4' : ¬ (32768 : Int) < (N : Int) := by omega
  have HLT : Hid (C.Lt ∧ C.Ln) := hN (by omega)
  clear hN hN4
  have HGV := given_any _ ks w2 (HCH.out w2 (T0.out.trans T2.out)) HS.out
  go_wp2_with fail
  refine Calls.mono HGV ?_
  rintro e w3 ⟨u, ls, rfl, gv⟩
  have T3 : Hid (Touch (fun _ => False) W0 w3) := T2.out.trans gv.buf.t
  have HN1 : Hid (pureL ls = pureL ks ∧ ls.length = ks.length) := ⟨gv.same, gv.len⟩
  have HG : Hid (∀ w', Touch (fun _ => False) w3 w' → ChainAt w' u ls) := fun w' t => (gv.keep t).chain
  have HKO : Hid (∀ p ∈ pureL ks, p.Ok) := fun p hp => by
    rw [← gv.same] at hp
    simp only [pureL, List.mem_map] at hp
    obtain ⟨x, hx, rfl⟩ := hp
    exact gv.ok x hx
  have hll : ls.length ≤ 1000000 := by have := hsum_len ks; have := HS.out; have := gv.len; omega
  have HLL : Hid (ls.length ≤ 1000000) := hll
  obtain ⟨ua, uc, eu⟩ := gv.buf.form
  rw [gv.len] at eu
  subst eu
  clear gv HGV hll hN4'
  have HC1 := achk_any (.slice ua ks.length uc) ls w3 (HG.out w3 (Touch.refl _ _))
  rw [HN1.out.1] at HC1
  have HC2 := fun w' (t : Touch (fun _ => False) w3 w') => choose_any (.slice ua ks.length uc) ls now w' (HG.out w' t) HLL.out
  rw [HN1.out.1] at HC2
  obtain ⟨E1, hE1⟩ : ∃ E1, E1 = achE (pureL ks) := ⟨_, rfl⟩
  obtain ⟨at_, hat⟩ : ∃ at_, at_ = chooseI (pureL ks) now := ⟨_, rfl⟩
  rw [← hE1] at HC1
  rw [← hat] at HC2
  have HE1 : Hid (E1 = achE (pureL ks)) := hE1
  have HAT : Hid (at_ = chooseI (pureL ks) now) := hat
  generalize achI (pureL ks) = I1 at HC1
  clear hE1 hat
  go_wp2_with fail
  refine Calls.mono HC1 ?_
  rintro e w4 ⟨rfl, t4⟩
  go_wp2_with fail
  refine Calls.mono (HC2 w4 t4) ?_
  rintro e w5 ⟨rfl, t5⟩
  have T35 : Hid (Touch (fun _ => False) w3 w5) := t4.trans t5
  have T5 : Hid (Touch (fun _ => False) W0 w5) := T3.out.trans T35.out
  clear t4 t5 HC1 HC2
  have R5 := (HR0.out w5 T5.out).range
  have HCP := fun w' (t : Touch (fun _ => False) w w') => cpacket C HLT.out.1 HLT.out.2 _ _ _ _ _ w' (HPA.out w' t)
  unfold PV.v at HCP
  go_wp2_with (first | refine wpList_load_mid rfl 33 (.tmp 4) rfl g2 0 rfl [.int .u8 C.P.typ, .int .u32 C.P.router, .int .u32 C.P.area, .int .u32 C.P.mask, .int .u16 C.P.iv, .int .u8 C.P.opts, .int .u8 C.P.prio, .int .u32 C.P.dead, .int .u32 C.P.dr, .int .u32 C.P.bdr, .slice na C.nb.length nc, .int .u16 C.P.mtu, .int .u8 C.P.dopts, .int .u8 C.P.dflags, .int .u32 C.P.dseq, .slice da C.dh.length dc, .slice ka C.ks.length kc, .slice sa C.ss.length sc, .slice ha C.hs.length hcc] _ R5 Tryz.underlying33 rfl (by kernel_rfl) ?_)
  refine Calls.mono (HCP w5 (T0.out.trans T5.out)) ?_
  rintro e w6 ⟨un, ud, uk, us, uh, rfl, ow6, t6⟩
  have HEN := penc_any C OK.out HLT.out.1 au00 au00_ok un ud uk us uh w6 (POwn.at_ ow6 OK.out)
  have T36 : Hid (Touch (fun _ => False) w3 w6) := T35.out.trans t6
  obtain ⟨nna, nnc, nda, ndc, nka, nkc, nsa, nsc, nha, nhc, rfl, rfl, rfl, rfl, rfl⟩ := (POwn.at_ ow6 OK.out).forms
  clear ow6 t6 R5 HCP
  unfold PV.v AuV.v au00 at HEN
  obtain ⟨EP, hEP⟩ : ∃ EP, EP = pencE C ⟨0, 0, 0, 0, 0, 0, 0, 0, 0⟩ := ⟨_, rfl⟩
  obtain ⟨bB, hbB⟩ : ∃ bB, bB = pencB C ⟨0, 0, 0, 0, 0, 0, 0, 0, 0⟩ := ⟨_, rfl⟩
  rw [← hEP, ← hbB] at HEN
  have HEP : Hid (EP = pencE C au00) := hEP
  have HBB : Hid (bB = pencB C au00) := hbB
  clear hEP hbB
  go_wp2_with fail
  refine Calls.mono HEN ?_
  rintro e w7 ⟨vb, rfl, bf⟩
  have T37 : Hid (Touch (fun _ => False) w3 w7) := T36.out.trans bf.t
  have HBF : Hid (∀ w', Touch (fun _ => False) w7 w' → RowAt w' vb bB) := fun w' t => (bf.keep t).row
  obtain ⟨ba, bc, rfl⟩ := bf.form
  clear bf HEN
  have TW7 : Hid (Touch (fun _ => False) w w7) := T0.out.trans (T3.out.trans T37.out)
  by_cases he1 : E1 = 0
  rotate_left
  · have he1' : (E1 == 0) = false := by simpa using he1
    go_wp2_with fail
    refine (lives8 _).mono ?_
    rintro e wz ⟨rfl, tz⟩
    have T9 : Hid (Touch (fun _ => False) w wz) := TW7.out.trans tz
    clear tz
    go_wp2_with fail
    go_ret
    exact ⟨rfl, T9.out⟩
  by_cases hep : EP = 0
  rotate_left
  · have hep' : (EP == 0) = false := by simpa using hep
    subst he1
    go_wp2_with fail
    refine (lives8 _).mono ?_
    rintro e wz ⟨rfl, tz⟩
    have T9 : Hid (Touch (fun _ => False) w wz) := TW7.out.trans tz
    clear tz
    go_wp2_with fail
    go_ret
    exact ⟨rfl, T9.out⟩
  subst he1 hep
  have hpE : pencE C au00 = 0 := HEP.out.symm
  have RR := pround OK.out au00_ok hpE
  have HBS : Hid ((∀ z ∈ bB, 0 ≤ z ∧ z < 256) ∧ bB.length ≤ 65535) := by rw [HBB.out]; exact ⟨RR.bt, RR.small⟩
  clear RR
  have HCB : Hid (∀ w' v c, ArgAt w' v c → c.length ≤ 70000 → Calls Tryz.prog 14 #[v] w' fun e w'' => ∃ u, e = .returned u ∧ Buf w' w'' u c) := fun w' v c h hl => cbytes_any v c w' h (by omega)
  have HSG : Hid (∀ w' v, Touch (fun _ => False) w3 w' → ArgAt w' v bB → Calls Tryz.prog 13 #[v, .slice ua ks.length uc, .int .i64 now, .int .u32 seq] w' fun e w'' => ∃ u, e = .returned (.tuple #[u, .int .i64 (signE bB (pureL ks) now)]) ∧ Buf w' w'' u (signB bB (pureL ks) now seq)) := fun w' v t h => by
    have := asign_any v (.slice ua ks.length uc) bB ls now seq w' h HBS.out.1 (by have := HBS.out.2; omega) (HG.out w' t) HLL.out HSQ.out
    rw [HN1.out.1] at this
    exact this
  have HOP : Hid (∀ w' v c, Touch (fun _ => False) w3 w' → ArgAt w' v c → (∀ z ∈ c, 0 ≤ z ∧ z < 256) → c.length ≤ 70000 → Calls Tryz.prog 15 #[v, .slice ua ks.length uc, .int .i64 now] w' fun e w'' => e = .returned (.tuple #[.int .u32 (openS c (pureL ks) now), .int .i64 (openN c (pureL ks) now), .int .i64 (openE c (pureL ks) now)]) ∧ Touch (fun _ => False) w' w'') := fun w' v c t h hb hl => by
    have := aopen_any v (.slice ua ks.length uc) c ls now w' h hb (by omega) (HG.out w' t) HLL.out
    rw [HN1.out.1] at this
    exact this
  by_cases hnil : ks = []
  · subst hnil
    have BN := back_nil OK.out hpE now seq
    rw [← HBB.out] at BN
    have hSG := fun w' v t h => HSG.out w' v t h
    have hOP := fun w' v t h => HOP.out w' v bB t h HBS.out.1 (by have := HBS.out.2; omega)
    simp only [pureL, List.map_nil, BN.sE, BN.sB] at hSG
    simp only [pureL, List.map_nil, BN.h, BN.s, BN.n] at hOP
    have hCB := HCB.out w7 _ bB (HBF.out w7 (Touch.refl _ _)).arg (by have := HBS.out.2; omega)
    clear BN HSG HOP hpE
    go_wp2_with fail
    refine Calls.mono hCB ?_
    rintro e w8 ⟨v8, rfl, b8⟩
    have h9 := hSG w8 v8 (T37.out.trans b8.t) b8.arg
    have T8 : Hid (Touch (fun _ => False) w7 w8) := b8.t
    clear b8 hCB hSG
    go_wp2_with fail
    refine Calls.mono h9 ?_
    rintro e w9 ⟨v9, rfl, b9⟩
    have T9 : Hid (Touch (fun _ => False) w7 w9) := T8.out.trans b9.t
    have HRC : Hid (∀ w', Touch (fun _ => False) w9 w' → RowAt w' v9 bB) := fun w' t => (b9.keep t).row
    obtain ⟨ca, cc, rfl⟩ := b9.form
    have hCB := HCB.out w9 _ bB b9.arg (by have := HBS.out.2; omega)
    clear b9 h9
    go_wp2_with fail
    refine Calls.mono hCB ?_
    rintro e w10 ⟨v10, rfl, b10⟩
    have h11 := hOP w10 v10 (T37.out.trans (T9.out.trans b10.t)) b10.arg
    have T10 : Hid (Touch (fun _ => False) w9 w10) := b10.t
    clear b10 hCB hOP
    go_wp2_with fail
    refine Calls.mono h11 ?_
    rintro e w11 ⟨rfl, t11⟩
    have T11 : Hid (Touch (fun _ => False) w9 w11) := T10.out.trans t11
    have hEQ := eqb_any _ _ bB bB w11 rfl (HRC.out w11 T11.out) (HBF.out w11 (T9.out.trans T11.out)) true (by simp)
    clear t11 h11
    go_wp2_with fail
    refine Calls.mono hEQ ?_
    rintro e w12 ⟨rfl, t12⟩
    have T12 : Hid (Touch (fun _ => False) w w12) := (TW7.out.trans (T9.out.trans T11.out)).trans t12
    clear t12 hEQ
    go_wp2_with fail
    refine (lives8 _).mono ?_
    rintro e wz ⟨rfl, tz⟩
    have T9 : Hid (Touch (fun _ => False) w wz) := T12.out.trans tz
    clear tz
    go_wp2_with fail
    go_ret
    exact ⟨rfl, T9.out⟩
  have hlen : 0 < ks.length := List.length_pos_iff.2 hnil
  have hlen' : (0 : Int) < (ks.length : Int) := by omega
  have hbd := bestI_bound (pureL ks) now (pureL ks).length
  have hat1 : at_ < (ks.length : Int) := by rw [HAT.out]; unfold chooseI; have := hbd.2; simpa [pureL] using this
  clear hbd
  by_cases hneg : at_ < 0
  · clear hpE
    go_wp2_with fail
    refine (lives8 _).mono ?_
    rintro e wz ⟨rfl, tz⟩
    have T9 : Hid (Touch (fun _ => False) w wz) := TW7.out.trans tz
    clear tz
    go_wp2_with fail
    go_ret
    exact ⟨rfl, T9.out⟩
  obtain ⟨at', rfl⟩ : ∃ n : Nat, at_ = (n : Int) := ⟨at_.toNat, by omega⟩
  obtain ⟨x, hx⟩ : ∃ x, ks[at']? = some x := ⟨ks[at']'(by omega), List.getElem?_eq_getElem (by omega)⟩
  have hat0 : (0 : Int) ≤ (at' : Int) := by omega
  have hatge : ¬ (ks.length : Int) ≤ (at' : Int) := by omega
  obtain ⟨cB, A, BK⟩ := back_all OK.out hpE HE1.out.symm HKO.out HSQ.out (now := now) (k := x.p) (by rw [← HAT.out]; omega) (by rw [← HAT.out, Int.toNat_natCast]; exact pure_at hx)
  rw [← HBB.out] at BK
  have HBK : Hid (Back C (pureL ks) now seq x.p bB cB A) := BK
  have HX : Hid (ks[at']? = some x) := hx
  have hSG := fun w' v t h => HSG.out w' v t h
  rw [BK.sE, BK.sB] at hSG
  clear BK hpE hx HSG hnil HE1 HAT HKO
  have hCB := HCB.out w7 _ bB (HBF.out w7 (Touch.refl _ _)).arg (by have := HBS.out.2; omega)
  go_wp2_with fail
  refine Calls.mono hCB ?_
  rintro e w8 ⟨v8, rfl, b8⟩
  have h9 := hSG w8 v8 (T37.out.trans b8.t) b8.arg
  have T8 : Hid (Touch (fun _ => False) w7 w8) := b8.t
  clear b8 hCB hSG hneg hatge
  go_wp2_with fail
  refine Calls.mono h9 ?_
  rintro e w9 ⟨v9, rfl, b9⟩
  have T9 : Hid (Touch (fun _ => False) w7 w9) := T8.out.trans b9.t
  have HRC : Hid (∀ w', Touch (fun _ => False) w9 w' → ArgAt w' v9 cB) := fun w' t => (b9.keep t).arg
  obtain ⟨ca, cc, rfl⟩ := b9.form
  clear b9 h9
  have hCB := HCB.out w9 _ cB (HRC.out w9 (Touch.refl _ _)) HBK.out.small
  go_wp2_with fail
  refine Calls.mono hCB ?_
  rintro e w10 ⟨v10, rfl, b10⟩
  have h11 := HOP.out w10 v10 cB (T37.out.trans (T9.out.trans b10.t)) b10.arg HBK.out.bt HBK.out.small
  have T10 : Hid (Touch (fun _ => False) w9 w10) := b10.t
  obtain ⟨sO, hsO⟩ : ∃ sO, sO = openS cB (pureL ks) now := ⟨_, rfl⟩
  obtain ⟨nO, hnO⟩ : ∃ nO, nO = openN cB (pureL ks) now := ⟨_, rfl⟩
  obtain ⟨eO, heO⟩ : ∃ eO, eO = openE cB (pureL ks) now := ⟨_, rfl⟩
  rw [← hsO, ← hnO, ← heO] at h11
  have HOV : Hid (x.p.takes now = true → eO = 0 ∧ nO = (bB.length : Nat) ∧ (x.p.kind = 2 → sO = seq)) := fun ht => by rw [hsO, hnO, heO]; exact HBK.out.h ht
  clear b10 hCB hsO hnO heO
  go_wp2_with fail
  refine Calls.mono h11 ?_
  rintro e w11 ⟨rfl, t11⟩
  have T11 : Hid (Touch (fun _ => False) w9 w11) := T10.out.trans t11
  have TW11 : Hid (Touch (fun _ => False) w w11) := TW7.out.trans (T9.out.trans T11.out)
  clear t11 h11
  have hlne : ((ks.length : Int) == 0) = false := by rw [beq_eq_false_iff_ne]; omega
  obtain ⟨-, gR, off, cR, eR, hcell⟩ := ChainAt.one (HCH.out w11 TW11.out) HX.out
  cases eR
  have e0 : w11.cell? ⟨gR, off + at' * 7, none⟩ = some (.int .u8 x.p.id) := by exact hcell 0 _ rfl
  have e1 : w11.cell? ⟨gR, off + at' * 7 + 1, none⟩ = some (.int .u16 x.p.kind) := by rw [Nat.add_assoc]; exact hcell 1 _ rfl
  have e2 : w11.cell? ⟨gR, off + at' * 7 + 2, none⟩ = some (.slice x.a x.p.sec.length x.c) := by rw [Nat.add_assoc]; exact hcell 2 _ rfl
  have e3 : w11.cell? ⟨gR, off + at' * 7 + 3, none⟩ = some (.int .i64 x.p.sf) := by rw [Nat.add_assoc]; exact hcell 3 _ rfl
  have e4 : w11.cell? ⟨gR, off + at' * 7 + 4, none⟩ = some (.int .i64 x.p.su) := by rw [Nat.add_assoc]; exact hcell 4 _ rfl
  have e5 : w11.cell? ⟨gR, off + at' * 7 + 5, none⟩ = some (.int .i64 x.p.tf) := by rw [Nat.add_assoc]; exact hcell 5 _ rfl
  have e6 : w11.cell? ⟨gR, off + at' * 7 + 6, none⟩ = some (.int .i64 x.p.tu) := by rw [Nat.add_assoc]; exact hcell 6 _ rfl
  clear hcell
  go_upto_region 16 with fail
  have kb := kbox_new w11 x.p.id x.p.kind x.a x.p.sec.length x.c x.p.sf x.p.su x.p.tf x.p.tu
  have tk : Touch (fun _ => False) w11 (w11.alloc (.cells #[.int .u8 x.p.id, .int .u16 x.p.kind, .slice x.a x.p.sec.length x.c, .int .i64 x.p.sf, .int .i64 x.p.su, .int .i64 x.p.tf, .int .i64 x.p.tu] 56)) := (Touch.refl _ _).alloc _
  generalize w11.alloc (.cells #[.int .u8 x.p.id, .int .u16 x.p.kind, .slice x.a x.p.sec.length x.c, .int .i64 x.p.sf, .int .i64 x.p.su, .int .i64 x.p.tf, .int .i64 x.p.tu] 56) = w12 at kb tk ⊢
  generalize w11.heap.size = gb at kb ⊢
  have T12 : Hid (Touch (fun _ => False) w9 w12) := T11.out.trans tk
  have TW12 : Hid (Touch (fun _ => False) w w12) := TW11.out.trans tk
  have HKB : Hid (∀ w', Touch (fun _ => False) w12 w' → KBox w' gb x.p.id (x.p.kind) x.a x.p.sec.length x.c x.p.sf x.p.su x.p.tf x.p.tu) := fun w' t => kb.keep t
  clear kb tk e0 e1 e2 e3 e4 e5 e6 hlne hlen' hat0 hat1
  have hCB := HCB.out w12 _ cB (HRC.out w12 T12.out) HBK.out.small
  go_wp2_with fail
  refine Calls.mono hCB ?_
  rintro e w13 ⟨v13, rfl, b13⟩
  have h14 := aopen_any v13 (.slice none 0 0) cB [] now w13 b13.arg HBK.out.bt (by have := HBK.out.small; omega) (chain_none w13) (by simp)
  have e14 : openE cB (pureL []) now = 25 := HBK.out.i
  rw [e14] at h14
  generalize openS cB (pureL []) now = s14 at h14
  generalize openN cB (pureL []) now = n14 at h14
  have T13 : Hid (Touch (fun _ => False) w12 w13) := b13.t
  clear b13 hCB e14
  go_wp2_with fail
  refine Calls.mono h14 ?_
  rintro e w14 ⟨rfl, t14⟩
  have T14 : Hid (Touch (fun _ => False) w12 w14) := T13.out.trans t14
  have hCB := HCB.out w14 _ bB (HBF.out w14 (T9.out.trans (T12.out.trans T14.out))).arg (by have := HBS.out.2; omega)
  clear t14 h14
  go_wp2_with fail
  refine Calls.mono hCB ?_
  rintro e w15 ⟨v15, rfl, b15⟩
  have h16 := HOP.out w15 v15 bB (T37.out.trans (T9.out.trans (T12.out.trans (T14.out.trans b15.t)))) b15.arg HBS.out.1 (by have := HBS.out.2; omega)
  rw [HBK.out.j] at h16
  generalize openS bB (pureL ks) now = s16 at h16
  generalize openN bB (pureL ks) now = n16 at h16
  have T15 : Hid (Touch (fun _ => False) w12 w15) := T14.out.trans b15.t
  clear b15 hCB HOP
  go_wp2_with fail
  refine Calls.mono h16 ?_
  rintro e w16 ⟨rfl, t16⟩
  have T16 : Hid (Touch (fun _ => False) w12 w16) := T15.out.trans t16
  have TW16 : Hid (Touch (fun _ => False) w w16) := TW12.out.trans T16.out
  clear t16 h16
  have q := HKB.out w16 T16.out
  have q5 := q.c5
  have q6 := q.c6
  have q1 := q.c1
  clear q
  by_cases hlo : now < x.p.tf
  · clear q1 q6
    go_wp2_with fail
    refine (lives8 _).mono ?_
    rintro e wz ⟨rfl, tz⟩
    have T9 : Hid (Touch (fun _ => False) w wz) := TW16.out.trans tz
    clear tz
    go_wp2_with fail
    go_ret
    exact ⟨rfl, T9.out⟩
  by_cases hhi : x.p.tu < now
  · clear q1
    go_wp2_with fail
    refine (lives8 _).mono ?_
    rintro e wz ⟨rfl, tz⟩
    have T9 : Hid (Touch (fun _ => False) w wz) := TW16.out.trans tz
    clear tz
    go_wp2_with fail
    go_ret
    exact ⟨rfl, T9.out⟩
  obtain ⟨v1, v2, v3⟩ := HOV.out (by show decide (x.p.tf ≤ now ∧ now ≤ x.p.tu) = true; rw [decide_eq_true_iff]; omega)
  subst v1 v2
  have HKK : Hid (A.kind = x.p.kind) := HBK.out.kk
  have HSV : Hid (x.p.kind = 2 → sO = seq) := v3
  have HDE := fun w' v (h : ArgAt w' v cB) => pdec_any v cB w' h HBK.out.bt (by have := HBK.out.small; omega)
  rw [HBK.out.dE, HBK.out.dC, HBK.out.dA] at HDE
  unfold PV.v AuV.v at HDE
  have hkb1 : Hid (∀ w', Touch (fun _ => False) w16 w' → w'.cell? ⟨gb, 1, none⟩ = some (.int .u16 x.p.kind)) := fun w' t => (HKB.out w' (T16.out.trans t)).c1
  rw [HKK.out] at HDE
  generalize hkd : x.p.kind = kd at *
  clear v3 HBK HKB HOV HKK
  have h17 := HDE w16 _ (HRC.out w16 (T12.out.trans T16.out))
  clear HDE
  have goal : ∀ sO', (kd = 2 → sO' = seq) → True := fun _ _ => trivial
  clear goal
  by_cases hk2 : kd = 2
  · have hsv := HSV.out hk2
    subst hsv
    subst hk2
    clear HSV hkd
    go_wp2_with fail
    refine Calls.mono h17 ?_
    rintro e w17 ⟨yn_, yd_, yk_, ys_, yh_, rfl, po, t17⟩
    obtain ⟨xn, yn, xd, yd, xk, yk, xs, ys, xh, yh, rfl, rfl, rfl, rfl, rfl⟩ := po.rw.forms
    have PW : Hid (∀ w', Touch (fun _ => False) w17 w' → PkRw w' C (.slice xn C.nb.length yn) (.slice xd C.dh.length yd) (.slice xk C.ks.length yk) (.slice xs C.ss.length ys) (.slice xh C.hs.length yh)) := fun w' t => po.rw.keep t
    have T17 : Hid (Touch (fun _ => False) w16 w17) := t17
    clear po t17 h17
    obtain ⟨w18, hw18⟩ : ∃ w18, w18 = (((w17.alloc (.cells #[.int .u8 0, .int .u32 0, .int .u32 0, .int .u32 0, .int .u16 0, .int .u8 0, .int .u8 0, .int .u32 0, .int .u32 0, .int .u32 0, .slice none 0 0, .int .u16 0, .int .u8 0, .int .u8 0, .int .u32 0, .slice none 0 0, .slice none 0 0, .slice none 0 0, .slice none 0 0] 33)).alloc (.cells #[.int .u16 0, .int .u8 0, .int .u8 0, .int .u8 0, .int .u8 0, .int .u8 0, .int .u8 0, .int .u8 0, .int .u8 0] 49)).setRow w17.heap.size #[.int .u8 C.P.typ, .int .u32 C.P.router, .int .u32 C.P.area, .int .u32 C.P.mask, .int .u16 C.P.iv, .int .u8 C.P.opts, .int .u8 C.P.prio, .int .u32 C.P.dead, .int .u32 C.P.dr, .int .u32 C.P.bdr, .slice xn C.nb.length yn, .int .u16 C.P.mtu, .int .u8 C.P.dopts, .int .u8 C.P.dflags, .int .u32 C.P.dseq, .slice xd C.dh.length yd, .slice xk C.ks.length yk, .slice xs C.ss.length ys, .slice xh C.hs.length yh]).setRow (w17.heap.size + 1) #[.int .u16 2, .int .u8 A.d0, .int .u8 A.d1, .int .u8 A.d2, .int .u8 A.d3, .int .u8 A.d4, .int .u8 A.d5, .int .u8 A.d6, .int .u8 A.d7] := ⟨_, rfl⟩
    have ra : Row ((w17.alloc (.cells #[.int .u8 0, .int .u32 0, .int .u32 0, .int .u32 0, .int .u16 0, .int .u8 0, .int .u8 0, .int .u32 0, .int .u32 0, .int .u32 0, .slice none 0 0, .int .u16 0, .int .u8 0, .int .u8 0, .int .u32 0, .slice none 0 0, .slice none 0 0, .slice none 0 0, .slice none 0 0] 33)).alloc (.cells #[.int .u16 0, .int .u8 0, .int .u8 0, .int .u8 0, .int .u8 0, .int .u8 0, .int .u8 0, .int .u8 0, .int .u8 0] 49)) w17.heap.size 33 [.int .u8 0, .int .u32 0, .int .u32 0, .int .u32 0, .int .u16 0, .int .u8 0, .int .u8 0, .int .u32 0, .int .u32 0, .int .u32 0, .slice none 0 0, .int .u16 0, .int .u8 0, .int .u8 0, .int .u32 0, .slice none 0 0, .slice none 0 0, .slice none 0 0, .slice none 0 0] := (row_new w17 33 #[.int .u8 0, .int .u32 0, .int .u32 0, .int .u32 0, .int .u16 0, .int .u8 0, .int .u8 0, .int .u32 0, .int .u32 0, .int .u32 0, .slice none 0 0, .int .u16 0, .int .u8 0, .int .u8 0, .int .u32 0, .slice none 0 0, .slice none 0 0, .slice none 0 0, .slice none 0 0]).keep ((Touch.refl _ _).alloc _)
    have rb : Row ((w17.alloc (.cells #[.int .u8 0, .int .u32 0, .int .u32 0, .int .u32 0, .int .u16 0, .int .u8 0, .int .u8 0, .int .u32 0, .int .u32 0, .int .u32 0, .slice none 0 0, .int .u16 0, .int .u8 0, .int .u8 0, .int .u32 0, .slice none 0 0, .slice none 0 0, .slice none 0 0, .slice none 0 0] 33)).alloc (.cells #[.int .u16 0, .int .u8 0, .int .u8 0, .int .u8 0, .int .u8 0, .int .u8 0, .int .u8 0, .int .u8 0, .int .u8 0] 49)) (w17.heap.size + 1) 49 [.int .u16 0, .int .u8 0, .int .u8 0, .int .u8 0, .int .u8 0, .int .u8 0, .int .u8 0, .int .u8 0, .int .u8 0] := by
      have := row_new (w17.alloc (.cells #[.int .u8 0, .int .u32 0, .int .u32 0, .int .u32 0, .int .u16 0, .int .u8 0, .int .u8 0, .int .u32 0, .int .u32 0, .int .u32 0, .slice none 0 0, .int .u16 0, .int .u8 0, .int .u8 0, .int .u32 0, .slice none 0 0, .slice none 0 0, .slice none 0 0, .slice none 0 0] 33)) 49 #[.int .u16 0, .int .u8 0, .int .u8 0, .int .u8 0, .int .u8 0, .int .u8 0, .int .u8 0, .int .u8 0, .int .u8 0]
      simpa using this
    have rb2 : Row (((w17.alloc (.cells #[.int .u8 0, .int .u32 0, .int .u32 0, .int .u32 0, .int .u16 0, .int .u8 0, .int .u8 0, .int .u32 0, .int .u32 0, .int .u32 0, .slice none 0 0, .int .u16 0, .int .u8 0, .int .u8 0, .int .u32 0, .slice none 0 0, .slice none 0 0, .slice none 0 0, .slice none 0 0] 33)).alloc (.cells #[.int .u16 0, .int .u8 0, .int .u8 0, .int .u8 0, .int .u8 0, .int .u8 0, .int .u8 0, .int .u8 0, .int .u8 0] 49)).setRow w17.heap.size #[.int .u8 C.P.typ, .int .u32 C.P.router, .int .u32 C.P.area, .int .u32 C.P.mask, .int .u16 C.P.iv, .int .u8 C.P.opts, .int .u8 C.P.prio, .int .u32 C.P.dead, .int .u32 C.P.dr, .int .u32 C.P.bdr, .slice xn C.nb.length yn, .int .u16 C.P.mtu, .int .u8 C.P.dopts, .int .u8 C.P.dflags, .int .u32 C.P.dseq, .slice xd C.dh.length yd, .slice xk C.ks.length yk, .slice xs C.ss.length ys, .slice xh C.hs.length yh]) (w17.heap.size + 1) 49 [.int .u16 0, .int .u8 0, .int .u8 0, .int .u8 0, .int .u8 0, .int .u8 0, .int .u8 0, .int .u8 0, .int .u8 0] := rb.otherRow (by omega) _
    have t18 : Touch (fun _ => False) w17 w18 := by rw [hw18]; exact ((((Touch.refl _ _).alloc _).alloc _).setRow (Or.inr (by omega)) _).setRow (Or.inr (by omega)) _
    have G7 : Row w18 w17.heap.size 33 [.int .u8 C.P.typ, .int .u32 C.P.router, .int .u32 C.P.area, .int .u32 C.P.mask, .int .u16 C.P.iv, .int .u8 C.P.opts, .int .u8 C.P.prio, .int .u32 C.P.dead, .int .u32 C.P.dr, .int .u32 C.P.bdr, .slice xn C.nb.length yn, .int .u16 C.P.mtu, .int .u8 C.P.dopts, .int .u8 C.P.dflags, .int .u32 C.P.dseq, .slice xd C.dh.length yd, .slice xk C.ks.length yk, .slice xs C.ss.length ys, .slice xh C.hs.length yh] := by rw [hw18]; exact (ra.setRow _).otherRow (by omega) _
    have G8 : Row w18 (w17.heap.size + 1) 49 [.int .u16 2, .int .u8 A.d0, .int .u8 A.d1, .int .u8 A.d2, .int .u8 A.d3, .int .u8 A.d4, .int .u8 A.d5, .int .u8 A.d6, .int .u8 A.d7] := by rw [hw18]; exact rb2.setRow _
    go_upto_region 25 with (first | refine wpList_store_row rfl 33 (.tmp 27) (.tmp 179) rfl w17.heap.size #[.int .u8 C.P.typ, .int .u32 C.P.router, .int .u32 C.P.area, .int .u32 C.P.mask, .int .u16 C.P.iv, .int .u8 C.P.opts, .int .u8 C.P.prio, .int .u32 C.P.dead, .int .u32 C.P.dr, .int .u32 C.P.bdr, .slice xn C.nb.length yn, .int .u16 C.P.mtu, .int .u8 C.P.dopts, .int .u8 C.P.dflags, .int .u32 C.P.dseq, .slice xd C.dh.length yd, .slice xk C.ks.length yk, .slice xs C.ss.length ys, .slice xh C.hs.length yh] rfl rfl 33 _ ra (by kernel_rfl) rfl (by simp [Value.oneCell']) ?_ | refine wpList_store_row rfl 49 (.tmp 28) (.tmp 180) rfl (w17.heap.size + 1) #[.int .u16 2, .int .u8 A.d0, .int .u8 A.d1, .int .u8 A.d2, .int .u8 A.d3, .int .u8 A.d4, .int .u8 A.d5, .int .u8 A.d6, .int .u8 A.d7] rfl rfl 49 _ rb2 (by kernel_rfl) rfl (by simp [Value.oneCell']) ?_)
    rw [← hw18]
    clear hw18 ra rb rb2
    generalize w17.heap.size + 1 = g8 at *
    generalize w17.heap.size = g7 at *
    have T18 : Hid (Touch (fun _ => False) w16 w18) := T17.out.trans t18
    have TW18 : Hid (Touch (fun _ => False) w w18) := TW16.out.trans T18.out
    have R7 := G7.range
    have R2 := (HR0.out w18 (T3.out.trans (T37.out.trans (T9.out.trans (T12.out.trans (T16.out.trans T18.out)))))).range
    have HQP := epacket C _ _ _ _ _ _ _ _ _ _ w18 (PW.out w18 t18) (HPA.out w18 TW18.out)
    have G8h : Hid (∀ w', Touch (fun _ => False) w18 w' → w'.cell? ⟨g8, 0, none⟩ = some (.int .u16 2)) := fun w' t => (G8.keep t).cell 0
    unfold PV.v at HQP
    clear t18 G7 G8 PW
    go_wp2_with (first | refine wpList_load_mid_g (by rfl) 33 (.tmp 27) rfl g7 0 rfl [.int .u8 C.P.typ, .int .u32 C.P.router, .int .u32 C.P.area, .int .u32 C.P.mask, .int .u16 C.P.iv, .int .u8 C.P.opts, .int .u8 C.P.prio, .int .u32 C.P.dead, .int .u32 C.P.dr, .int .u32 C.P.bdr, .slice xn C.nb.length yn, .int .u16 C.P.mtu, .int .u8 C.P.dopts, .int .u8 C.P.dflags, .int .u32 C.P.dseq, .slice xd C.dh.length yd, .slice xk C.ks.length yk, .slice xs C.ss.length ys, .slice xh C.hs.length yh] _ R7 Tryz.underlying33 rfl (by kernel_rfl) ?_ | refine wpList_load_mid_g (by rfl) 33 (.tmp 4) rfl g2 0 rfl [.int .u8 C.P.typ, .int .u32 C.P.router, .int .u32 C.P.area, .int .u32 C.P.mask, .int .u16 C.P.iv, .int .u8 C.P.opts, .int .u8 C.P.prio, .int .u32 C.P.dead, .int .u32 C.P.dr, .int .u32 C.P.bdr, .slice na C.nb.length nc, .int .u16 C.P.mtu, .int .u8 C.P.dopts, .int .u8 C.P.dflags, .int .u32 C.P.dseq, .slice da C.dh.length dc, .slice ka C.ks.length kc, .slice sa C.ss.length sc, .slice ha C.hs.length hcc] _ R2 Tryz.underlying33 rfl (by kernel_rfl) ?_)
    refine Calls.mono HQP ?_
    rintro e w19 ⟨rfl, t19⟩
    have TW19 : Hid (Touch (fun _ => False) w w19) := TW18.out.trans t19
    have y8 := G8h.out w19 t19
    have y1 := hkb1.out w19 (T18.out.trans t19)
    clear t19 HQP R7 R2
    go_wp2_with fail
    refine (lives8 _).mono ?_
    rintro e wz ⟨rfl, tz⟩
    have T9 : Hid (Touch (fun _ => False) w wz) := TW19.out.trans tz
    clear tz
    go_wp2_with fail
    go_ret
    exact ⟨rfl, T9.out⟩
  · have hk2' : (kd == 2) = false := by simpa using hk2
    clear HSV hkd
    go_wp2_with fail
    refine Calls.mono h17 ?_
    rintro e w17 ⟨yn_, yd_, yk_, ys_, yh_, rfl, po, t17⟩
    obtain ⟨xn, yn, xd, yd, xk, yk, xs, ys, xh, yh, rfl, rfl, rfl, rfl, rfl⟩ := po.rw.forms
    have PW : Hid (∀ w', Touch (fun _ => False) w17 w' → PkRw w' C (.slice xn C.nb.length yn) (.slice xd C.dh.length yd) (.slice xk C.ks.length yk) (.slice xs C.ss.length ys) (.slice xh C.hs.length yh)) := fun w' t => po.rw.keep t
    have T17 : Hid (Touch (fun _ => False) w16 w17) := t17
    clear po t17 h17
    obtain ⟨w18, hw18⟩ : ∃ w18, w18 = (((w17.alloc (.cells #[.int .u8 0, .int .u32 0, .int .u32 0, .int .u32 0, .int .u16 0, .int .u8 0, .int .u8 0, .int .u32 0, .int .u32 0, .int .u32 0, .slice none 0 0, .int .u16 0, .int .u8 0, .int .u8 0, .int .u32 0, .slice none 0 0, .slice none 0 0, .slice none 0 0, .slice none 0 0] 33)).alloc (.cells #[.int .u16 0, .int .u8 0, .int .u8 0, .int .u8 0, .int .u8 0, .int .u8 0, .int .u8 0, .int .u8 0, .int .u8 0] 49)).setRow w17.heap.size #[.int .u8 C.P.typ, .int .u32 C.P.router, .int .u32 C.P.area, .int .u32 C.P.mask, .int .u16 C.P.iv, .int .u8 C.P.opts, .int .u8 C.P.prio, .int .u32 C.P.dead, .int .u32 C.P.dr, .int .u32 C.P.bdr, .slice xn C.nb.length yn, .int .u16 C.P.mtu, .int .u8 C.P.dopts, .int .u8 C.P.dflags, .int .u32 C.P.dseq, .slice xd C.dh.length yd, .slice xk C.ks.length yk, .slice xs C.ss.length ys, .slice xh C.hs.length yh]).setRow (w17.heap.size + 1) #[.int .u16 kd, .int .u8 A.d0, .int .u8 A.d1, .int .u8 A.d2, .int .u8 A.d3, .int .u8 A.d4, .int .u8 A.d5, .int .u8 A.d6, .int .u8 A.d7] := ⟨_, rfl⟩
    have ra : Row ((w17.alloc (.cells #[.int .u8 0, .int .u32 0, .int .u32 0, .int .u32 0, .int .u16 0, .int .u8 0, .int .u8 0, .int .u32 0, .int .u32 0, .int .u32 0, .slice none 0 0, .int .u16 0, .int .u8 0, .int .u8 0, .int .u32 0, .slice none 0 0, .slice none 0 0, .slice none 0 0, .slice none 0 0] 33)).alloc (.cells #[.int .u16 0, .int .u8 0, .int .u8 0, .int .u8 0, .int .u8 0, .int .u8 0, .int .u8 0, .int .u8 0, .int .u8 0] 49)) w17.heap.size 33 [.int .u8 0, .int .u32 0, .int .u32 0, .int .u32 0, .int .u16 0, .int .u8 0, .int .u8 0, .int .u32 0, .int .u32 0, .int .u32 0, .slice none 0 0, .int .u16 0, .int .u8 0, .int .u8 0, .int .u32 0, .slice none 0 0, .slice none 0 0, .slice none 0 0, .slice none 0 0] := (row_new w17 33 #[.int .u8 0, .int .u32 0, .int .u32 0, .int .u32 0, .int .u16 0, .int .u8 0, .int .u8 0, .int .u32 0, .int .u32 0, .int .u32 0, .slice none 0 0, .int .u16 0, .int .u8 0, .int .u8 0, .int .u32 0, .slice none 0 0, .slice none 0 0, .slice none 0 0, .slice none 0 0]).keep ((Touch.refl _ _).alloc _)
    have rb : Row ((w17.alloc (.cells #[.int .u8 0, .int .u32 0, .int .u32 0, .int .u32 0, .int .u16 0, .int .u8 0, .int .u8 0, .int .u32 0, .int .u32 0, .int .u32 0, .slice none 0 0, .int .u16 0, .int .u8 0, .int .u8 0, .int .u32 0, .slice none 0 0, .slice none 0 0, .slice none 0 0, .slice none 0 0] 33)).alloc (.cells #[.int .u16 0, .int .u8 0, .int .u8 0, .int .u8 0, .int .u8 0, .int .u8 0, .int .u8 0, .int .u8 0, .int .u8 0] 49)) (w17.heap.size + 1) 49 [.int .u16 0, .int .u8 0, .int .u8 0, .int .u8 0, .int .u8 0, .int .u8 0, .int .u8 0, .int .u8 0, .int .u8 0] := by
      have := row_new (w17.alloc (.cells #[.int .u8 0, .int .u32 0, .int .u32 0, .int .u32 0, .int .u16 0, .int .u8 0, .int .u8 0, .int .u32 0, .int .u32 0, .int .u32 0, .slice none 0 0, .int .u16 0, .int .u8 0, .int .u8 0, .int .u32 0, .slice none 0 0, .slice none 0 0, .slice none 0 0, .slice none 0 0] 33)) 49 #[.int .u16 0, .int .u8 0, .int .u8 0, .int .u8 0, .int .u8 0, .int .u8 0, .int .u8 0, .int .u8 0, .int .u8 0]
      simpa using this
    have rb2 : Row (((w17.alloc (.cells #[.int .u8 0, .int .u32 0, .int .u32 0, .int .u32 0, .int .u16 0, .int .u8 0, .int .u8 0, .int .u32 0, .int .u32 0, .int .u32 0, .slice none 0 0, .int .u16 0, .int .u8 0, .int .u8 0, .int .u32 0, .slice none 0 0, .slice none 0 0, .slice none 0 0, .slice none 0 0] 33)).alloc (.cells #[.int .u16 0, .int .u8 0, .int .u8 0, .int .u8 0, .int .u8 0, .int .u8 0, .int .u8 0, .int .u8 0, .int .u8 0] 49)).setRow w17.heap.size #[.int .u8 C.P.typ, .int .u32 C.P.router, .int .u32 C.P.area, .int .u32 C.P.mask, .int .u16 C.P.iv, .int .u8 C.P.opts, .int .u8 C.P.prio, .int .u32 C.P.dead, .int .u32 C.P.dr, .int .u32 C.P.bdr, .slice xn C.nb.length yn, .int .u16 C.P.mtu, .int .u8 C.P.dopts, .int .u8 C.P.dflags, .int .u32 C.P.dseq, .slice xd C.dh.length yd, .slice xk C.ks.length yk, .slice xs C.ss.length ys, .slice xh C.hs.length yh]) (w17.heap.size + 1) 49 [.int .u16 0, .int .u8 0, .int .u8 0, .int .u8 0, .int .u8 0, .int .u8 0, .int .u8 0, .int .u8 0, .int .u8 0] := rb.otherRow (by omega) _
    have t18 : Touch (fun _ => False) w17 w18 := by rw [hw18]; exact ((((Touch.refl _ _).alloc _).alloc _).setRow (Or.inr (by omega)) _).setRow (Or.inr (by omega)) _
    have G7 : Row w18 w17.heap.size 33 [.int .u8 C.P.typ, .int .u32 C.P.router, .int .u32 C.P.area, .int .u32 C.P.mask, .int .u16 C.P.iv, .int .u8 C.P.opts, .int .u8 C.P.prio, .int .u32 C.P.dead, .int .u32 C.P.dr, .int .u32 C.P.bdr, .slice xn C.nb.length yn, .int .u16 C.P.mtu, .int .u8 C.P.dopts, .int .u8 C.P.dflags, .int .u32 C.P.dseq, .slice xd C.dh.length yd, .slice xk C.ks.length yk, .slice xs C.ss.length ys, .slice xh C.hs.length yh] := by rw [hw18]; exact (ra.setRow _).otherRow (by omega) _
    have G8 : Row w18 (w17.heap.size + 1) 49 [.int .u16 kd, .int .u8 A.d0, .int .u8 A.d1, .int .u8 A.d2, .int .u8 A.d3, .int .u8 A.d4, .int .u8 A.d5, .int .u8 A.d6, .int .u8 A.d7] := by rw [hw18]; exact rb2.setRow _
    go_upto_region 25 with (first | refine wpList_store_row rfl 33 (.tmp 27) (.tmp 179) rfl w17.heap.size #[.int .u8 C.P.typ, .int .u32 C.P.router, .int .u32 C.P.area, .int .u32 C.P.mask, .int .u16 C.P.iv, .int .u8 C.P.opts, .int .u8 C.P.prio, .int .u32 C.P.dead, .int .u32 C.P.dr, .int .u32 C.P.bdr, .slice xn C.nb.length yn, .int .u16 C.P.mtu, .int .u8 C.P.dopts, .int .u8 C.P.dflags, .int .u32 C.P.dseq, .slice xd C.dh.length yd, .slice xk C.ks.length yk, .slice xs C.ss.length ys, .slice xh C.hs.length yh] rfl rfl 33 _ ra (by kernel_rfl) rfl (by simp [Value.oneCell']) ?_ | refine wpList_store_row rfl 49 (.tmp 28) (.tmp 180) rfl (w17.heap.size + 1) #[.int .u16 kd, .int .u8 A.d0, .int .u8 A.d1, .int .u8 A.d2, .int .u8 A.d3, .int .u8 A.d4, .int .u8 A.d5, .int .u8 A.d6, .int .u8 A.d7] rfl rfl 49 _ rb2 (by kernel_rfl) rfl (by simp [Value.oneCell']) ?_)
    rw [← hw18]
    clear hw18 ra rb rb2
    generalize w17.heap.size + 1 = g8 at *
    generalize w17.heap.size = g7 at *
    have T18 : Hid (Touch (fun _ => False) w16 w18) := T17.out.trans t18
    have TW18 : Hid (Touch (fun _ => False) w w18) := TW16.out.trans T18.out
    have R7 := G7.range
    have R2 := (HR0.out w18 (T3.out.trans (T37.out.trans (T9.out.trans (T12.out.trans (T16.out.trans T18.out)))))).range
    have HQP := epacket C _ _ _ _ _ _ _ _ _ _ w18 (PW.out w18 t18) (HPA.out w18 TW18.out)
    have G8h : Hid (∀ w', Touch (fun _ => False) w18 w' → w'.cell? ⟨g8, 0, none⟩ = some (.int .u16 kd)) := fun w' t => (G8.keep t).cell 0
    unfold PV.v at HQP
    clear t18 G7 G8 PW
    go_wp2_with (first | refine wpList_load_mid_g (by rfl) 33 (.tmp 27) rfl g7 0 rfl [.int .u8 C.P.typ, .int .u32 C.P.router, .int .u32 C.P.area, .int .u32 C.P.mask, .int .u16 C.P.iv, .int .u8 C.P.opts, .int .u8 C.P.prio, .int .u32 C.P.dead, .int .u32 C.P.dr, .int .u32 C.P.bdr, .slice xn C.nb.length yn, .int .u16 C.P.mtu, .int .u8 C.P.dopts, .int .u8 C.P.dflags, .int .u32 C.P.dseq, .slice xd C.dh.length yd, .slice xk C.ks.length yk, .slice xs C.ss.length ys, .slice xh C.hs.length yh] _ R7 Tryz.underlying33 rfl (by kernel_rfl) ?_ | refine wpList_load_mid_g (by rfl) 33 (.tmp 4) rfl g2 0 rfl [.int .u8 C.P.typ, .int .u32 C.P.router, .int .u32 C.P.area, .int .u32 C.P.mask, .int .u16 C.P.iv, .int .u8 C.P.opts, .int .u8 C.P.prio, .int .u32 C.P.dead, .int .u32 C.P.dr, .int .u32 C.P.bdr, .slice na C.nb.length nc, .int .u16 C.P.mtu, .int .u8 C.P.dopts, .int .u8 C.P.dflags, .int .u32 C.P.dseq, .slice da C.dh.length dc, .slice ka C.ks.length kc, .slice sa C.ss.length sc, .slice ha C.hs.length hcc] _ R2 Tryz.underlying33 rfl (by kernel_rfl) ?_)
    refine Calls.mono HQP ?_
    rintro e w19 ⟨rfl, t19⟩
    have TW19 : Hid (Touch (fun _ => False) w w19) := TW18.out.trans t19
    have y8 := G8h.out w19 t19
    have y1 := hkb1.out w19 (T18.out.trans t19)
    clear t19 HQP R7 R2
    go_wp2_with fail
    refine (lives8 _).mono ?_
    rintro e wz ⟨rfl, tz⟩
    have T9 : Hid (Touch (fun _ => False) w wz) := TW19.out.trans tz
    clear tz
    go_wp2_with fail
    go_ret
    exact ⟨rfl, T9.out⟩
end Go.Proofs.YtjjgbcjgmjggnaaGreat
