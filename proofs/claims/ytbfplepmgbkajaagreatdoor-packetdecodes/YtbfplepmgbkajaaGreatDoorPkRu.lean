/- Package packet's reader: update. -/
import Derived.Test.YtbfplepmgbkajaaGreatDoorPkRp
import Derived.Test.YtbfplepmgbkajaaGreatDoorKeep
import Derived.Test.YtbfplepmgbkajaaGreatDoorBagKm
import Derived.Test.YtbfplepmgbkajaaGreatDoorPkPure
import Derived.Deep.RegionHeld3
import Derived.Deep.MidRow
import Derived.Deep.DeepCutAuto
namespace Go.Proofs.YtbfplepmgbkajaaGreatDoor
open Go.RowKit
set_option linter.unusedVariables false
set_option maxRecDepth 100000

attribute [local go_sem ↓] Go.wp_at_zero Go.wp_at_succ
theorem Tryz.infoS9 : (Tryz.prog.info? 95).map (fun i => (i.zero, i.size, i.bytes)) = some (some (.agg #[.int .u16 0, .int .u8 0, .int .u8 0, .int .u32 0, .int .u32 0, .int .i32 0, .int .u16 0, .int .u16 0, .slice none 0 0]), 9, 48) := by kernel_rfl
/-- A piece of bytes that lies there in every world of Q. -/
theorem cut_ever {Q : World → Prop} {w0 : World} (h0 : Q w0) {va : Option Addr} {vc : Nat} {rs : List Int} (h : ∀ w, Q w → ArgAt w (.slice va rs.length vc) rs) (hp : 0 < rs.length) (i : Nat) (hi : i ≤ rs.length) :
  ∃ v, (∀ w, Sem.run Tryz.prog (Instr.slice 40 (.slice va rs.length vc) (some (.int .i64 (i : Int))) none none) w = .ok v w) ∧ ∀ w, Q w → ArgAt w v (rs.drop i) := by
 obtain ⟨v, hv, _⟩ := cut_from (h w0 h0) rfl hp i hi
 refine ⟨v, hv, fun w hw => ?_⟩
 obtain ⟨v', hv', ha⟩ := cut_from (h w hw) rfl hp i hi
 have e : (Result.ok v w : Result Value) = .ok v' w := (hv w).symm.trans (hv' w)
 cases e
 exact ha
theorem World.rangeAt_far {w : World} {g g' : Nat} {cs : List Value} (h : w.rangeAt g 0 cs) (hne : ¬ g' = g) (i : Nat) (u : Value) : (w.setCell ⟨g', i, none⟩ u).rangeAt g 0 cs := fun j v hj => (cell_far (fun e => hne e.symm) (0 + j) i u).trans (h j v hj)
/-- What the loop holds. -/
structure UpL (gp : Nat) (P : PV) (rs : List Int) (cnt : Nat) (w3 : World) (gg : Nat) (s5 s18 : Value) (wx : World) : Prop where
 out : ∃ (j : Nat) (l : List SE) (cr : List Int) (la : Option Addr) (lc : Nat) (sa : Option Addr) (sc : Nat), j ≤ cnt ∧ gg = cnt - j ∧ s5 = .slice la cr.length lc ∧ s18 = .int .u32 (j : Int) ∧ rdPre j (rs.drop 28) = some (l.map SE.p, cr) ∧
  (∀ w', Touch (fun k => k = gp ∨ w3.heap.size ≤ k) w3 w' → ArgAt w' (.slice la cr.length lc) cr) ∧ Pd wx gp P (.slice none 0 0) (.slice none 0 0) (.slice none 0 0) (.slice sa l.length sc) (.slice none 0 0) ∧ Room wx gp 19 ∧ wx.ownsRow w3.heap.size 95 9 (.slice sa l.length sc) l.length (statesC l) ∧
  (∀ x ∈ l, wx.ownsRow w3.heap.size 5 1 x.v x.rs.length (bytesOf x.rs)) ∧ Touch (fun k => k = gp ∨ w3.heap.size ≤ k) w3 wx ∧ l.length ≤ rs.length ∧ (∀ z ∈ cr, 0 ≤ z ∧ z < 256) ∧ l.Pairwise Apt ∧ cr.length + l.length ≤ rs.length
theorem PkRu_C (P : PV) (rs : List Int) (l : List ST) (ht : P.typ = 4) (hl : rdPre (nAt rs 24 4).toNat (rs.drop 28) = some (l, [])) : ppartC P (rs.drop 24) = ⟨P, [], [], [], l, []⟩ := by
 unfold ppartC
 rw [if_neg (by omega), if_neg (by omega), if_neg (by omega), if_pos ht]
 have : rdAll (rs.drop 24) = some l := by
  unfold rdAll
  rw [show numOf ((rs.drop 24).take 4) = nAt rs 24 4 from rfl, List.drop_drop, hl]
 rw [this]
 rfl
theorem part4_0 {P : PV} {rs : List Int} {l : List ST} (ht : P.typ = 4) (h28 : 28 ≤ rs.length) (hl : rdPre (nAt rs 24 4).toNat (rs.drop 28) = some (l, [])) : ppartE P.typ (rs.drop 24) = 0 := by
 unfold ppartE
 rw [if_neg (by omega), if_neg (by omega), if_neg (by omega), if_pos ht, if_pos]
 refine ⟨by rw [List.length_drop]; omega, ?_⟩
 unfold rdAll
 rw [show numOf ((rs.drop 24).take 4) = nAt rs 24 4 from rfl, List.drop_drop, hl]
 rfl
theorem part4_no {P : PV} {rs : List Int} (ht : P.typ = 4) (hl : ∀ l, rdPre (nAt rs 24 4).toNat (rs.drop 28) ≠ some (l, [])) : ppartE P.typ (rs.drop 24) = 22 := by
 unfold ppartE
 rw [if_neg (by omega), if_neg (by omega), if_neg (by omega), if_pos ht, if_neg]
 rintro ⟨_, h⟩
 unfold rdAll at h
 rw [show numOf ((rs.drop 24).take 4) = nAt rs 24 4 from rfl, List.drop_drop] at h
 split at h
 ·rename_i l he
  exact hl l he
 ·cases h
theorem part4_short {P : PV} {rs : List Int} (ht : P.typ = 4) (hl : rs.length < 28) : ppartE P.typ (rs.drop 24) = 22 := by
 unfold ppartE
 rw [if_neg (by omega), if_neg (by omega), if_neg (by omega), if_pos ht, if_neg]
 rintro ⟨h, _⟩
 rw [List.length_drop] at h
 omega
set_option maxHeartbeats 4000000 in
theorem prupd (N b gp : Nat) (P : PV) (rs : List Int) (w : World) (h : Rdr N w b rs (some 24)) (hN : N ≤ gp) (hg : gp < w.heap.size) (pd : Pd w gp P (.slice none 0 0) (.slice none 0 0) (.slice none 0 0) (.slice none 0 0) (.slice none 0 0)) (rm : Room w gp 19) (ht : P.typ = 4) (h24 : 24 ≤ rs.length) (hc : rs.length ≤ 1000000) :
  Calls Tryz.prog 145 #[.agg #[.pointer (some ⟨b, 0, none⟩)], .pointer (some ⟨gp, 0, none⟩)] w (PtP b gp P (rs.drop 24) w) := by
 have hb := h.lt
 have hb0 := h.low
 have HBy : Hid (∀ z ∈ rs, 0 ≤ z ∧ z < 256) := h.byte
 obtain ⟨wa, hwa⟩ : ∃ wa, wa = w.alloc (.cells #[.pointer (some ⟨b, 0, none⟩)] 189) := ⟨_, rfl⟩
 have ta : Touch (fun _ => False) w wa := by rw [hwa]; exact (Touch.refl _ w).alloc _
 have ca : wa.cell? ⟨w.heap.size, 0, none⟩ = some (.pointer (some ⟨b, 0, none⟩)) := by rw [hwa]; simp [go_sem]
 have za : wa.heap.size = w.heap.size + 1 := by rw [hwa]; simp
 have nbg : ¬ gp = b := by omega
 have ng1 : ¬ w.heap.size = b := by omega
 have RM : Hid (Room wa gp 19) := rm.keep ta
 have PDa : Hid (Pd wa gp P (.slice none 0 0) (.slice none 0 0) (.slice none 0 0) (.slice none 0 0) (.slice none 0 0)) := pd.keep ta
 have ZA : Hid (wa.heap.size = w.heap.size + 1) := za
 have TA : Hid (Touch (fun k => k = b ∨ k = gp) w wa) := ta.mono (fun _ _ f => f.elim)
 have HT : Hid (P.typ = 4) := ht
 have HG : Hid (gp < w.heap.size) := hg
 have rd := h.keep ta
 have HNU := prnum4 N b 24 rs wa rd
 have q0 := onl_cell (F := fun k => k = b) ca ng1
 clear ta za h rm pd hN hg hb hb0 ht
 go_enter Tryz.func145, Tryz.ntmps145
 go_upto_region 1 with fail
 rw [← hwa]
 clear hwa
 generalize hG1 : w.heap.size = g1 at *
 have HG1 : Hid (w.heap.size = g1) := hG1
 clear hG1
 go_wp2_with fail
 refine Calls.mono HNU ?_
 intro e w1 h1
 rcases h1.out with ⟨rfl, l1, r1, t1⟩ | ⟨rfl, l1, t1⟩
 rotate_left
 ·exact ⟨rfl, ptp_no (part4_short HT.out (by omega)) (by decide) (TA.out.trans (t1.mono (fun _ _ e => Or.inl e)))⟩
 have L1 : Hid (28 ≤ rs.length) := by show _ ≤ _; omega
 have hnb := nAt_bound HBy.out 24 4 (by omega)
 obtain ⟨cnt, hcnt⟩ : ∃ cnt : Nat, nAt rs 24 4 = (cnt : Int) := ⟨(nAt rs 24 4).toNat, by omega⟩
 have hcb : cnt < 4294967296 := by omega
 have CN : Hid ((nAt rs 24 4).toNat = cnt) := by show _ = _; rw [hcnt]; simp
 rw [hcnt]
 have s1 : Onl (fun k => k = b) wa w1.drew := ⟨t1.drew⟩
 have r1' : Rdr N w1.drew b rs (some 28) := r1.keep ((Touch.refl _ _).drew)
 obtain ⟨LV, hLV⟩ : ∃ LV : Nat, rs.length - 28 = LV := ⟨_, rfl⟩
 obtain ⟨c0, hc0⟩ : ∃ c0, rs.drop 28 = c0 := ⟨_, rfl⟩
 have HC0 : Hid (rs.drop 28 = c0) := hc0
 have HLf : Hid (∀ w', Rdr N w' b rs (some 28) → Calls Tryz.prog 175 #[.pointer (some ⟨b, 0, none⟩)] w' fun e w'' => e = .returned (.int .i64 (LV : Int)) ∧ Touch (fun _ => False) w' w'') := fun w' h => by
  have := left_t N b 28 rs w' h
  rwa [show (rs.length : Int) - ((28 : Nat) : Int) = (LV : Int) by omega] at this
 have HBt : Hid (∀ w', Rdr N w' b rs (some 28) → Calls Tryz.prog 141 #[.pointer (some ⟨b, 0, none⟩), .int .i64 (LV : Int)] w' fun e w'' => ∃ v, e = .returned v ∧ w''.ownsRow w'.heap.size 5 1 v c0.length (bytesOf c0) ∧ Touch (fun k => k = b) w' w'') := fun w' h => by
  refine (pbytes_n LV N b 28 rs w' h (by omega) hc).mono ?_
  rintro e w'' ⟨v, rfl, h1, -, h3⟩
  rw [List.take_of_length_le (by rw [List.length_drop]; omega), hc0] at h1
  exact ⟨v, rfl, h1, h3⟩
 clear h1 l1 r1 t1 HNU rd hnb hcnt hLV ca hc0
 go_upto_region 2 with fail
 go_region_held3 (fun w' => Onl (fun k => k = b) wa w') (with_reducible assumption) (first
  | (go_at_call 175; refine Calls.mono (HLf.out _ r1') ?_; rintro e w2 ⟨rfl, t2⟩; have s2 := s1.keep t2; have r2 := r1'.keep t2)
  | (go_at_call 141; refine Calls.mono (HBt.out _ r2) ?_; rintro e w3 ⟨v3, rfl, o3, t3⟩; have s3 : Onl (fun k => k = b) wa w3 := s2.step t3 (fun _ h => h); obtain ⟨la3, lc3, ev⟩ := own_form o3; subst ev))
 have z3 : Hid (g1 < w2.heap.size ∧ w2.heap.size ≤ w3.heap.size) := ⟨by have := s2.t.size; have := ZA.out; omega, t3.size⟩
 have T3 : Hid (Touch (fun k => k = b ∨ k = gp) w w3) := TA.out.trans (s3.t.mono (fun _ _ e => Or.inl e))
 have O3 : Hid (w3.ownsRow w2.heap.size 5 1 (.slice la3 c0.length lc3) c0.length (bytesOf c0)) := o3
 have A3 : Hid (∀ w', Touch (fun k => k = gp ∨ w3.heap.size ≤ k) w3 w' → ArgAt w' (.slice la3 c0.length lc3) c0) := fun w' t => (own_rowAt (own_touch O3.out t (fun k hk e => by have h1 := O3.out.lt k hk; have h2 := z3.out; have h3 := HG.out; omega))).arg
 have REL : Hid (UpL gp P rs cnt w3 cnt (.slice la3 c0.length lc3) (.int .u32 0) w3) := ⟨0, [], c0, la3, lc3, none, 0, by omega, by omega, rfl, rfl, (by rw [rdPre, HC0.out]; rfl), A3.out, PDa.out.touch s3.t nbg, RM.out.touch s3.t nbg, own_nil _ _ _ _, (fun x hx => by cases hx), Touch.refl _ _, by simp, (fun z hz => HBy.out z (List.mem_of_mem_drop (by rw [HC0.out]; exact hz))), List.Pairwise.nil, by rw [← HC0.out, List.length_drop]; simp⟩
 have ZG : Hid (gp < w3.heap.size) := by have h2 := z3.out; have h3 := HG.out; show _ < _; omega
 clear t2 t3 s1 s2 s3 r1' r2 o3 HLf HBt q0 RM PDa O3 A3 TA
 go_wp2_with fail
 go_loopg [5, 6, 7, 8, 18] cnt (fun gg s5 _ _ _ s18 wx => UpL gp P rs cnt w3 gg s5 s18 wx)
 case atStart => exact REL.out
 case round =>
  clear REL
  obtain ⟨j, l, cr, la, lc, sa, sc, hj, hgg, rfl, rfl, hpre, al, pw, rw_, ow, ob, tw, hll, hby, hap, hcl⟩ := hrel.out
  have HAP : Hid (l.Pairwise Apt) := hap
  clear hap
  have AL : Hid (∀ w', Touch (fun k => k = gp ∨ w3.heap.size ≤ k) w3 w' → ArgAt w' (.slice la cr.length lc) cr) := al
  have PW_ : Hid (Pd wr gp P (.slice none 0 0) (.slice none 0 0) (.slice none 0 0) (.slice sa l.length sc) (.slice none 0 0)) := pw
  have RW : Hid (Room wr gp 19) := rw_
  have OW : Hid (wr.ownsRow w3.heap.size 95 9 (.slice sa l.length sc) l.length (statesC l)) := ow
  have OB : Hid (∀ x ∈ l, wr.ownsRow w3.heap.size 5 1 x.v x.rs.length (bytesOf x.rs)) := ob
  have TW : Hid (Touch (fun k => k = gp ∨ w3.heap.size ≤ k) w3 wr) := tw
  have HPRE : Hid (rdPre j (rs.drop 28) = some (l.map SE.p, cr)) := hpre
  have HCB : Hid (∀ z ∈ cr, 0 ≤ z ∧ z < 256) := hby
  clear hrel al pw rw_ ow ob tw hpre hby
  by_cases hlt : j < cnt
  ·have hlt' : (j : Int) < (cnt : Int) := by omega
   have hjw : IntKind.u32.wrap ((j : Int) + 1) = (j : Int) + 1 := wrap_u32 (by omega) (by omega)
   have T5 : Hid (∀ w', Touch (fun k => k = gp ∨ w3.heap.size ≤ k) w3 w' → Touch (fun k => k = b ∨ k = gp) w w') := fun w' t => T3.out.trans' t (fun i hi e => by have h1 := z3.out; have h2 := HG1.out; omega)
   by_cases hE : readE cr = 0
   rotate_left
   ·have HR := read_bad _ cr wr (AL.out wr TW.out) HCB.out (by omega) hE
    have NO : Hid (ppartE P.typ (rs.drop 24) = 22) := part4_no HT.out (fun l' hl' => by
     have h1 : rdPre (j + 1) (rs.drop 28) = none := by rw [rdPre, HPRE.out]; simp only [hE, if_false]
     rw [CN.out, rdPre_none h1 cnt (by omega)] at hl'
     cases hl')
    have hEb : (readE cr == 0) = false := by simpa using hE
    generalize readE cr = ER at *
    clear hE
    go_wp2_with fail
    refine Calls.mono HR ?_
    rintro e w4 ⟨rfl, t4⟩
    have T4 : Hid (Touch (fun k => k = b ∨ k = gp) w w4) := T5.out _ (TW.out.trans' t4 (fun _ _ f => f.elim))
    clear HR t4
    go_wp2_with fail
    refine Calls.mono (pneed_f _ 22 _ (by first | exact hEb | simp)) ?_
    rintro e w5 ⟨rfl, rfl⟩
    exact ⟨rfl, ptp_no NO.out (by decide) (T4.out.alloc _)⟩
   have HSTEP : Hid (rdPre (j + 1) (rs.drop 28) = some (l.map SE.p ++ [(rdHead (cr.take 20), (cr.drop 20).take ((rdHead (cr.take 20)).len.toNat - 20))], cr.drop (rdHead (cr.take 20)).len.toNat)) := by
    show _ = _
    rw [rdPre, HPRE.out]
    simp only [hE, if_true]
   obtain ⟨z1, z2, z4⟩ := readE_zero hE
   obtain ⟨H, hH⟩ : ∃ H, rdHead (cr.take 20) = H := ⟨_, rfl⟩
   rw [hH] at z2 z4
   have HR := read_good _ cr wr (AL.out wr TW.out) HCB.out z1 (by omega) H hH z2 z4
   obtain ⟨BD, hBD⟩ : ∃ BD, (cr.drop 20).take (H.len.toNat - 20) = BD := ⟨_, rfl⟩
   obtain ⟨hn, hhn⟩ : ∃ hn : Nat, H.len = (hn : Int) := ⟨H.len.toNat, by omega⟩
   have STP : Hid (rdPre (j + 1) (rs.drop 28) = some (l.map SE.p ++ [(H, BD)], cr.drop hn)) := by
    have := HSTEP.out
    rw [hH, hBD, show H.len.toNat = hn by omega] at this
    exact this
   have HBD : Hid (BD.length ≤ cr.length) := by show _ ≤ _; rw [← hBD, List.length_take, List.length_drop]; omega
   have BDB : Hid (∀ z ∈ BD, 0 ≤ z ∧ z < 256) := by rw [← hBD]; exact fun z hz => HCB.out z (List.mem_of_mem_drop (List.mem_of_mem_take hz))
   rw [hBD, hhn] at HR
   have HHA : Hid (H.len = (hn : Int)) := hhn
   obtain ⟨v8, hv8, al8⟩ := cut_ever (Q := fun w' => Touch (fun k => k = gp ∨ w3.heap.size ≤ k) w3 w') TW.out AL.out (by omega) hn (by omega)
   obtain ⟨la8, lc8, ev8, -⟩ := (al8 wr TW.out).form
   subst ev8
   have AL8 : Hid (∀ w', Touch (fun k => k = gp ∨ w3.heap.size ≤ k) w3 w' → ArgAt w' (.slice la8 (cr.drop hn).length lc8) (cr.drop hn)) := al8
   have HC8 : Hid (∀ z ∈ cr.drop hn, 0 ≤ z ∧ z < 256) := fun z hz => HCB.out z (List.mem_of_mem_drop hz)
   have HL8 : Hid ((cr.drop hn).length + (l.length + 1) ≤ rs.length) := by show _ ≤ _; rw [List.length_drop]; omega
   generalize cr.drop hn = cr8 at *
   clear hE hH hBD hhn al8 HSTEP z1 z2 z4 AL HPRE
   unfold HV.sv at HR
   go_wp2_with fail
   refine Calls.mono HR ?_
   rintro e w4 ⟨u4, rfl, b4⟩
   obtain ⟨ua, uc, rfl⟩ := b4.form
   obtain ⟨w5, hw5⟩ : ∃ w5, w5 = w4.alloc (.cells #[.int .u16 H.age, .int .u8 H.opts, .int .u8 H.typ, .int .u32 H.id, .int .u32 H.adv, .int .i32 H.seq, .int .u16 H.sum, .int .u16 H.len, .slice ua BD.length uc] 95) := ⟨_, rfl⟩
   have t5 : Touch (fun _ => False) w4 w5 := by rw [hw5]; exact (Touch.refl _ _).alloc _
   have r5 : w5.rangeAt w4.heap.size 0 [.int .u16 H.age, .int .u8 H.opts, .int .u8 H.typ, .int .u32 H.id, .int .u32 H.adv, .int .i32 H.seq, .int .u16 H.sum, .int .u16 H.len, .slice ua BD.length uc] := by
    rw [hw5]
    intro i v hi
    match i, hi with
    | 0, hi => cases hi; simp [go_sem]
    | 1, hi => cases hi; simp [go_sem]
    | 2, hi => cases hi; simp [go_sem]
    | 3, hi => cases hi; simp [go_sem]
    | 4, hi => cases hi; simp [go_sem]
    | 5, hi => cases hi; simp [go_sem]
    | 6, hi => cases hi; simp [go_sem]
    | 7, hi => cases hi; simp [go_sem]
    | 8, hi => cases hi; simp [go_sem]
    | i + 9, hi => simp at hi
   have z5 : w5.heap.size = w4.heap.size + 1 := by rw [hw5]; simp
   have B4 : Hid (Buf wr w4 (.slice ua BD.length uc) BD) := b4
   clear HR b4
   go_upto_region 6 with fail
   rw [← hw5]
   clear hw5
   go_wp2_with fail
   refine Calls.mono (pneed_ok 22 _) ?_
   rintro e w6 ⟨rfl, rfl⟩
   have S5 : w5.drew.rangeAt w4.heap.size 0 [.int .u16 H.age, .int .u8 H.opts, .int .u8 H.typ, .int .u32 H.id, .int .u32 H.adv, .int .i32 H.seq, .int .u16 H.sum, .int .u16 H.len, .slice ua BD.length uc] := fun i v hi => r5 i v hi
   have TT : Hid (Touch (fun _ => False) wr w5.drew) := (B4.out.t.trans t5).drew
   have P5 : Hid (Pd w5.drew gp P (.slice none 0 0) (.slice none 0 0) (.slice none 0 0) (.slice sa l.length sc) (.slice none 0 0)) := PW_.out.keep TT.out
   have R5 : Hid (Room w5.drew gp 19) := RW.out.keep TT.out
   have O5 : Hid (w5.drew.ownsRow w3.heap.size 95 9 (.slice sa l.length sc) l.length (statesC l)) := own_touch OW.out TT.out (fun _ _ f => f)
   have U5 : Hid (w5.drew.ownsRow wr.heap.size 5 1 (.slice ua BD.length uc) BD.length (bytesOf BD)) := own_touch B4.out.own (t5.drew) (fun _ _ f => f)
   have OB5 : Hid (∀ x ∈ l, w5.drew.ownsRow w3.heap.size 5 1 x.v x.rs.length (bytesOf x.rs)) := fun x hx => own_touch (OB.out x hx) TT.out (fun _ _ f => f)
   have T5' : Hid (Touch (fun k => k = gp ∨ w3.heap.size ≤ k) w3 w5.drew) := TW.out.trans' TT.out (fun _ _ f => f.elim)
   have zz : Hid (w3.heap.size ≤ wr.heap.size ∧ wr.heap.size ≤ w4.heap.size ∧ w5.heap.size = w4.heap.size + 1) := ⟨TW.out.size, B4.out.t.size, z5⟩
   have d17 : w5.drew.cell? ⟨gp, 17, none⟩ = some (.slice sa l.length sc) := P5.out.c17
   have ng6 : ¬ gp = w4.heap.size := by have := zz.out; have := ZG.out; omega
   have OWL : Hid (∀ k, (Value.slice sa l.length sc).ownBlock = some k → w3.heap.size ≤ k ∧ k < wr.heap.size) := fun k hk => OW.out.lt k hk
   have OBL : Hid (∀ x ∈ l, ∀ k, x.v.ownBlock = some k → k < wr.heap.size) := fun x hx k hk => ((OB.out x hx).lt k hk).2
   have UWL : Hid (∀ k, (Value.slice ua BD.length uc).ownBlock = some k → wr.heap.size ≤ k) := fun k hk => (B4.out.own.lt k hk).1
   clear B4 PW_ RW OW OB TW TT t5 r5 z5
   generalize hg6 : w4.heap.size = g6 at *
   have HG6 : Hid (w4.heap.size = g6) := hg6
   clear hg6
   go_upto_region 7 with fail
   refine wp_region_held_drew (S := fun w' => w'.rangeAt g6 0 [.int .u16 H.age, .int .u8 H.opts, .int .u8 H.typ, .int .u32 H.id, .int .u32 H.adv, .int .i32 H.seq, .int .u16 H.sum, .int .u16 H.len, .slice ua BD.length uc]) (by kernel_rfl) S5 (fun hHeld => ?_)
   refine wpAnyH_take (i := 0) (oi := ⟨some 29, _, _, _, _, _⟩) (v := .pointer (some ⟨gp, 0, none⟩)) rfl (by kernel_rfl) (by kernel_rfl) (by kernel_rfl) (fun _ _ _ h => h) (Or.inl ⟨by rfl, fun w hw => by go_simp⟩) (by assumption) ?_
   simp only [Act.put, List.setIfInBounds_toArray, List.set_cons_zero, List.set_cons_succ]
   refine wpAnyH_take (i := 1) (oi := ⟨some 30, _, _, _, _, _⟩) (v := .pointer (some ⟨gp, 0, none⟩)) rfl (by kernel_rfl) (by kernel_rfl) (by kernel_rfl) (fun _ _ _ h => h) (Or.inl ⟨by rfl, fun w hw => by go_simp⟩) (by assumption) ?_
   simp only [Act.put, List.setIfInBounds_toArray, List.set_cons_zero, List.set_cons_succ]
   refine wpAnyH_take (i := 2) (oi := ⟨some 31, _, _, _, _, _⟩) (v := .pointer (some ⟨gp, 0, none⟩)) rfl (by kernel_rfl) (by kernel_rfl) (by kernel_rfl) (fun _ _ _ h => h) (Or.inl ⟨by rfl, fun w hw => by go_simp⟩) (by assumption) ?_
   simp only [Act.put, List.setIfInBounds_toArray, List.set_cons_zero, List.set_cons_succ]
   refine wpAnyH_take (i := 3) (oi := ⟨some 32, _, _, _, _, _⟩) (v := .pointer (some ⟨gp, 17, none⟩)) rfl (by kernel_rfl) (by kernel_rfl) (by kernel_rfl) (fun _ _ _ h => h) (Or.inl ⟨by rfl, fun w hw => by go_simp⟩) (by assumption) ?_
   simp only [Act.put, List.setIfInBounds_toArray, List.set_cons_zero, List.set_cons_succ]
   refine wpAnyH_take (i := 5) (oi := ⟨some 34, _, _, _, _, _⟩) (v := .agg #[.int .u16 H.age, .int .u8 H.opts, .int .u8 H.typ, .int .u32 H.id, .int .u32 H.adv, .int .i32 H.seq, .int .u16 H.sum, .int .u16 H.len, .slice ua BD.length uc]) rfl (by kernel_rfl) (by kernel_rfl) (by kernel_rfl) (fun _ _ _ h => h) (yieldsIf_load_mid (by rfl) _ _ rfl _ _ rfl [.int .u16 H.age, .int .u8 H.opts, .int .u8 H.typ, .int .u32 H.id, .int .u32 H.adv, .int .i32 H.seq, .int .u16 H.sum, .int .u16 H.len, .slice ua BD.length uc] _ (fun w h => h) Tryz.underlying95 rfl (by kernel_rfl)) (by assumption) ?_
   simp only [Act.put, List.setIfInBounds_toArray, List.set_cons_zero, List.set_cons_succ]
   have e17 : w5.cell? ⟨gp, 17, none⟩ = some (.slice sa l.length sc) := d17
   have hgw : gp < w5.heap.size := by have := zz.out; have := ZG.out; omega
   have hgw2 : ¬ gp = w5.heap.size := by omega
   have d17b : (w5.alloc (.cells #[.int .u16 H.age, .int .u8 H.opts, .int .u8 H.typ, .int .u32 H.id, .int .u32 H.adv, .int .i32 H.seq, .int .u16 H.sum, .int .u16 H.len, .slice ua BD.length uc] 95)).cell? ⟨gp, 17, none⟩ = some (.slice sa l.length sc) := ((Touch.refl (fun _ => False) _).alloc _).cellN e17
   have d17a : (w5.drew.alloc (.cells #[.int .u16 H.age, .int .u8 H.opts, .int .u8 H.typ, .int .u32 H.id, .int .u32 H.adv, .int .i32 H.seq, .int .u16 H.sum, .int .u16 H.len, .slice ua BD.length uc] 95)).cell? ⟨gp, 17, none⟩ = some (.slice sa l.length sc) := ((Touch.refl (fun _ => False) _).alloc _).cellN d17
   refine wpAnyH_ready (rs := [4, 6]) (by kernel_rfl) (by simp) ?_
   refine AllReadyH.cons rfl (fun K hK => ?_) (AllReadyH.cons rfl (fun K hK => ?_) AllReadyH.nil)
   go_simp
   refine hK.out _ _ S5 (fun hHeld => ?_)
   clear hK K
   refine wpAnyH_ready (rs := [6]) (by kernel_rfl) (by simp) ?_
   refine AllReadyH.cons rfl (fun K hK => ?_) AllReadyH.nil
   go_simp
   refine hK.out _ _ (fun i v hi => ((Touch.refl (fun _ => False) _).alloc _).cellN (S5 i v hi)) (fun hHeld => ?_)
   clear hK K
   rotate_left
   go_simp
   refine hK.out _ _ (fun i v hi => ((Touch.refl (fun _ => False) _).alloc _).cellN (S5 i v hi)) (fun hHeld => ?_)
   clear hK K
   refine wpAnyH_ready (rs := [4]) (by kernel_rfl) (by simp) ?_
   refine AllReadyH.cons rfl (fun K hK => ?_) AllReadyH.nil
   go_simp
   refine hK.out _ _ (fun i v hi => ((Touch.refl (fun _ => False) _).alloc _).cellN (S5 i v hi)) (fun hHeld => ?_)
   clear hK K
   all_goals
    refine wpAnyH_ready (rs := [7]) (by kernel_rfl) (by simp) ?_
    refine AllReadyH.cons rfl (fun K hK => ?_) AllReadyH.nil
    have O5a : Hid ((w5.drew.alloc (.cells #[.int .u16 H.age, .int .u8 H.opts, .int .u8 H.typ, .int .u32 H.id, .int .u32 H.adv, .int .i32 H.seq, .int .u16 H.sum, .int .u16 H.len, .slice ua BD.length uc] 95)).ownsRow w3.heap.size 95 9 (.slice sa l.length sc) l.length (statesC l)) := own_touch O5.out ((Touch.refl (fun _ => False) _).alloc _) (fun _ _ h => h)
    refine step_own (by rfl) (.tmp 33) (.tmp 35) 31 (by rfl) w3.heap.size 95 (.agg #[.int .u16 0, .int .u8 0, .int .u8 0, .int .u32 0, .int .u32 0, .int .i32 0, .int .u16 0, .int .u16 0, .slice none 0 0]) 9 48 Tryz.underlying31 Tryz.infoS9 rfl (by decide) (by decide) (.slice sa l.length sc) l.length (statesC l) (by rfl) O5a.out ⟨w5.drew.heap.size, 0, none⟩ 1 1 [.int .u16 H.age, .int .u8 H.opts, .int .u8 H.typ, .int .u32 H.id, .int .u32 H.adv, .int .i32 H.seq, .int .u16 H.sum, .int .u16 H.len, .slice ua BD.length uc] (by rfl) rfl ?c1 ?c2 (by omega) (by have := zz.out; show _ ≤ (w5.alloc _).heap.size; simp; omega) ?_
    case c1 =>
     intro i v hi
     rw [add_plain]
     match i, hi with
     | 0, hi => cases hi; simp [go_sem]
     | 1, hi => cases hi; simp [go_sem]
     | 2, hi => cases hi; simp [go_sem]
     | 3, hi => cases hi; simp [go_sem]
     | 4, hi => cases hi; simp [go_sem]
     | 5, hi => cases hi; simp [go_sem]
     | 6, hi => cases hi; simp [go_sem]
     | 7, hi => cases hi; simp [go_sem]
     | 8, hi => cases hi; simp [go_sem]
     | i + 9, hi => simp at hi
    case c2 => intro u hu; simp at hu; rcases hu with rfl | rfl | rfl | rfl | rfl | rfl | rfl | rfl | rfl <;> rfl
    intro v7 w7 o7 t7
    obtain ⟨sa7, sc7, ev7⟩ := own_form o7
    subst ev7
    have hnb : ∀ k, k < w3.heap.size ∨ wr.heap.size ≤ k → ¬ (Value.slice sa l.length sc).ownBlock = some k := fun k hk e => by have := OWL.out k e; omega
    have S7 : w7.rangeAt g6 0 [.int .u16 H.age, .int .u8 H.opts, .int .u8 H.typ, .int .u32 H.id, .int .u32 H.adv, .int .i32 H.seq, .int .u16 H.sum, .int .u16 H.len, .slice ua BD.length uc] := fun i v hi => (t7.cell (lt_of_cellA (((Touch.refl (fun _ => False) _).alloc _).cellN (S5 i v hi))) (hnb g6 (Or.inr (by have := zz.out; have := HG6.out; omega)))).trans (((Touch.refl (fun _ => False) _).alloc _).cellN (S5 i v hi))
    have P7 : Pd w7 gp P (.slice none 0 0) (.slice none 0 0) (.slice none 0 0) (.slice sa l.length sc) (.slice none 0 0) := (P5.out.keep ((Touch.refl _ _).alloc _)).touch t7 (hnb gp (Or.inl ZG.out))
    have R7 : Room w7 gp 19 := (R5.out.keep ((Touch.refl _ _).alloc _)).touch t7 (hnb gp (Or.inl ZG.out))
    have OB7 : Hid (∀ x ∈ l, w7.ownsRow w3.heap.size 5 1 x.v x.rs.length (bytesOf x.rs)) := fun x hx => own_touch (own_touch (OB5.out x hx) ((Touch.refl (fun _ => False) _).alloc _) (fun _ _ h => h)) t7 (fun k hk e => own_unlike O5.out (OB5.out x hx) (by decide) e hk)
    have U7 : Hid (w7.ownsRow w3.heap.size 5 1 (.slice ua BD.length uc) BD.length (bytesOf BD)) := own_lower (own_touch (own_touch U5.out ((Touch.refl (fun _ => False) _).alloc _) (fun _ _ h => h)) t7 (fun k hk => hnb k (Or.inr (UWL.out k hk)))) zz.out.1
    have T7 : Hid (Touch (fun k => k = gp ∨ w3.heap.size ≤ k) w3 w7) := (T5'.out.alloc _).trans' t7 (fun i hi e => Or.inr (OWL.out i e).1)
    have O7 : Hid (w7.ownsRow w3.heap.size 95 9 (.slice sa7 (l.length + 1) sc7) (l.length + 1) (statesC (l ++ [⟨H, .slice ua BD.length uc, BD⟩]))) := by
     have e : statesC (l ++ [⟨H, .slice ua BD.length uc, BD⟩]) = statesC l ++ [.int .u16 H.age, .int .u8 H.opts, .int .u8 H.typ, .int .u32 H.id, .int .u32 H.adv, .int .i32 H.seq, .int .u16 H.sum, .int .u16 H.len, .slice ua BD.length uc] := by simp [statesC, SE.cells]
     show World.ownsRow _ _ _ _ _ _ _
     rw [e]
     exact o7
    have c17 : w7.cell? ⟨gp, 17, none⟩ = some (.slice sa l.length sc) := P7.c17
    have f17 : w7.frozen? ⟨gp, 17, none⟩ = false := by obtain ⟨_, _, h⟩ := R7 17 (by omega); exact h
    refine hK.out _ _ S7 (fun hHeld => ?_)
    clear hK K
    refine wpAnyH_take (i := 8) (oi := ⟨some 37, _, _, _, _, _⟩) (v := .pointer (some ⟨gp, 0, none⟩)) rfl (by kernel_rfl) (by kernel_rfl) (by kernel_rfl) (fun _ _ _ h => h) (Or.inl ⟨by rfl, fun w hw => by go_simp⟩) (by assumption) ?_
    simp only [Act.put, List.setIfInBounds_toArray]
    refine wpAnyH_take (i := 9) (oi := ⟨some 38, _, _, _, _, _⟩) (v := .pointer (some ⟨gp, 17, none⟩)) rfl (by kernel_rfl) (by kernel_rfl) (by kernel_rfl) (fun _ _ _ h => h) (Or.inl ⟨by rfl, fun w hw => by go_simp⟩) (by assumption) ?_
    simp only [Act.put]
    refine wpAnyH_ready (rs := [10]) (by kernel_rfl) (by simp) ?_
    refine AllReadyH.cons rfl (fun K hK => ?_) AllReadyH.nil
    go_simp
    refine hK.out _ _ (World.rangeAt_far S7 ng6 17 _) (fun hHeld => ?_)
    clear hK K
    refine wpAnyH_done (by kernel_rfl) ?_ _
    have T8 : Touch (fun k => k = gp) w7 (w7.setCell ⟨gp, 17, none⟩ (.slice sa7 (l.length + 1) sc7)) := Touch.setCell (F := fun k => k = gp) (p := ⟨gp, 17, none⟩) (Touch.refl _ _) (Or.inl rfl) _
    have N8 : ∀ k, w3.heap.size ≤ k → ¬ k = gp := fun k hk e => by have := ZG.out; omega
    have REL : Hid (UpL gp P rs cnt w3 (cnt - (j + 1)) (.slice la8 cr8.length lc8) (.int .u32 ((j + 1 : Nat) : Int)) (w7.setCell ⟨gp, 17, none⟩ (.slice sa7 (l.length + 1) sc7))) := by
     refine ⟨j + 1, l ++ [⟨H, .slice ua BD.length uc, BD⟩], cr8, la8, lc8, sa7, sc7, by omega, rfl, rfl, rfl, ?_, AL8.out, ?_, R7.set 17 _, ?_, ?_, T7.out.trans (T8.mono (fun _ _ e => Or.inl e)), ?_, HC8.out, ?_, ?_⟩
     ·rw [STP.out, List.map_append]; rfl
     ·rw [List.length_append]; exact P7.setStates _
     ·rw [List.length_append]; exact own_touch O7.out T8 (fun k hk => N8 k (O7.out.lt k hk).1)
     ·intro x hx
      rcases List.mem_append.1 hx with hx | hx
      ·exact own_touch (OB7.out x hx) T8 (fun k hk => N8 k ((OB7.out x hx).lt k hk).1)
      ·obtain rfl := List.mem_singleton.1 hx
       exact own_touch U7.out T8 (fun k hk => N8 k (U7.out.lt k hk).1)
     ·rw [List.length_append]; have := HL8.out; show l.length + 1 ≤ _; omega
     ·refine List.pairwise_append.2 ⟨HAP.out, List.pairwise_singleton _ _, fun x hx y hy => ?_⟩
      obtain rfl := List.mem_singleton.1 hy
      intro k hk hk2
      have h1 := OBL.out x hx k hk
      have h2 := UWL.out k hk2
      omega
     ·rw [List.length_append]; exact HL8.out
    clear P7 R7 c17 f17 S7 S5 d17 o7 t7 hnb T8 N8 O7 OB7 U7 T7
    go_wp2_with fail
    go_roundg (cnt - (j + 1))
    case measure => omega
    case rel => exact REL.out
  ·obtain rfl : j = cnt := by omega
   have hlt' : ¬ (j : Int) < (j : Int) := by omega
   by_cases hcr : cr = []
   ·subst hcr
    have FIN : Hid (PtP b gp P (rs.drop 24) w (.returned (.tuple #[])) wr) := by
     have hp : rdPre (nAt rs 24 4).toNat (rs.drop 28) = some (l.map SE.p, []) := by rw [CN.out]; exact HPRE.out
     refine ptp_ok (vn := .slice none 0 0) (vd := .slice none 0 0) (vk := .slice none 0 0) (vs := .slice sa l.length sc) (vh := .slice none 0 0) (part4_0 HT.out L1.out hp) (T3.out.trans' TW.out (fun i hi e => by have h1 := z3.out; have h2 := HG1.out; omega)) ?_ RW.out ?_
     ·rw [PkRu_C P rs _ HT.out hp]; exact PW_.out
     ·rw [PkRu_C P rs _ HT.out hp]
      have hle : w.heap.size ≤ w3.heap.size := by have h1 := z3.out; have h2 := HG1.out; omega
      exact ⟨own_nil _ _ _ _, own_nil _ _ _ _, own_nil _ _ _ _, ⟨l, rfl, own_lower OW.out hle, (fun x hx => own_lower (OB.out x hx) hle), HAP.out⟩, own_nil _ _ _ _, (fun k hk hh => by simp [Value.ownBlock] at hk hh)⟩
    clear AL HPRE
    go_wp2_with fail
    refine Calls.mono (pneed_t _ 22 _ (by simp)) ?_
    rintro e w5 ⟨rfl, rfl⟩
    go_wp2
    go_end0
    exact FIN.out
   ·have NO : Hid (ppartE P.typ (rs.drop 24) = 22) := part4_no HT.out (fun l' hl' => by rw [CN.out, HPRE.out] at hl'; cases hl'; exact hcr rfl)
    have hl0 : ¬ cr.length = 0 := fun h => hcr (List.length_eq_zero_iff.1 h)
    have hcb2 : (((cr.length : Nat) : Int) == 0) = false := by simpa using hl0
    clear AL HPRE hcr
    go_wp2_with fail
    refine Calls.mono (pneed_f _ 22 _ (by first | exact hcb2 | simp)) ?_
    rintro e w5 ⟨rfl, rfl⟩
    exact ⟨rfl, ptp_no NO.out (by decide) (T3.out.trans' TW.out (fun i hi e => by have h1 := z3.out; have h2 := HG1.out; omega))⟩
end Go.Proofs.YtbfplepmgbkajaaGreatDoor
