/- The small known run 'lives' answers true. -/
import Derived.Test.YtfdpmlogieaiaaaStEncAny
import Derived.Test.YtfdpmlogieaiaaaStSeal
import Derived.Test.YtfdpmlogieaiaaaStBody
namespace Go.Proofs.Ytfdpmlogieaiaaa
open Go.RowKit
set_option linter.unusedVariables false
set_option maxRecDepth 100000

def lvH : HV := ⟨0, 0, 3, 0, 0, 1, 0, 0⟩
def lvH6 : HV := ⟨0, 0, 6, 0, 0, 0, 0, 0⟩
def lvB : BV := ⟨0, [], 4294967040, [], 10, false, 0, 0, []⟩
def lvL : List Int := [255, 255, 255, 0, 0, 0, 0, 10]
theorem lvH_all : lvH.All := by constructor <;> decide
theorem lvH6_all : lvH6.All := by constructor <;> decide
theorem lvB_ok : lvB.Ok := by constructor <;> simp [lvB]
theorem lvZ_ok : BV.zero.Ok := by constructor <;> simp [BV.zero]
theorem lvB_light : Light lvB := ⟨by decide, by decide, by decide⟩
theorem lvZ_light : Light BV.zero := ⟨by decide, by decide, by decide⟩
theorem lv_mask : pbok 4294967040 = true := by decide +kernel
theorem lv_lay : layB lvH.typ lvB = lvL := by decide +kernel
theorem lv_byte : ∀ z ∈ lvL, 0 ≤ z ∧ z < 256 := by decide
theorem lv_encok : EncOk lvH.typ lvB := ⟨by decide, (mayB_iff _ _).2 ⟨by decide, by decide, by decide, by decide, by decide, by decide, lv_mask, by decide, by decide, by decide, by simp [lvB]⟩, by rw [lv_lay]; decide⟩
theorem nil_barg (w : World) (B : BV) (h1 : B.links = []) (h3 : B.routers = []) (h8 : B.data = []) : BArg w B (.slice none B.links.length 0) (.slice none B.routers.length 0) (.slice none B.data.length 0) := by
  rw [h1, h3, h8]
  refine ⟨?_, ?_, ?_⟩
  · rw [h1]; exact ⟨rfl, Or.inl ⟨rfl, rfl⟩⟩
  · rw [h3]; exact ⟨rfl, Or.inl ⟨rfl, rfl⟩⟩
  · rw [h8]; exact Or.inl ⟨rfl, rfl⟩
theorem lv_enc (w : World) : Calls Try.prog 7 #[.agg #[.int .u16 0, .int .u8 0, .int .u8 3, .int .u32 0, .int .u32 0, .int .i32 1, .int .u16 0, .int .u16 0], .agg #[.int .u8 0, .slice none 0 0, .int .u32 4294967040, .slice none 0 0, .int .u32 10, .bool false, .int .u32 0, .int .u32 0, .slice none 0 0]] w fun e w' => ∃ u, e = .returned (.tuple #[(sealH lvH lvL).sv u, .int .i64 0]) ∧ Buf w w' u lvL := by
  have := encode_good lvH lvH_all lvB lvB_ok lvB_light none none none 0 0 0 w (nil_barg w lvB rfl rfl rfl) lv_encok
  rw [lv_lay] at this
  exact this
theorem lv_enc6 (w : World) : Calls Try.prog 7 #[.agg #[.int .u16 0, .int .u8 0, .int .u8 6, .int .u32 0, .int .u32 0, .int .i32 0, .int .u16 0, .int .u16 0], .agg #[.int .u8 0, .slice none 0 0, .int .u32 0, .slice none 0 0, .int .u32 0, .bool false, .int .u32 0, .int .u32 0, .slice none 0 0]] w fun e w' => e = .returned (.tuple #[.agg #[.int .u16 0, .int .u8 0, .int .u8 0, .int .u32 0, .int .u32 0, .int .i32 0, .int .u16 0, .int .u16 0, .slice none 0 0], .int .i64 21]) ∧ Touch (fun _ => False) w w' :=
  encode_bad lvH6 lvH6_all BV.zero lvZ_ok lvZ_light none none none 0 0 0 w (nil_barg w BV.zero rfl rfl rfl) (by decide)
theorem lv_whole : whole ((headB (sealH lvH lvL) ++ lvL).drop 2) = true := by decide +kernel
theorem lv_sum0 : sealS lvH lvL ≠ 0 := by decide +kernel
theorem lv_sealAll : (sealH lvH lvL).All := by
  refine ⟨by decide, by decide, by decide, by decide, by decide, by decide, ?_, by decide⟩
  show 0 ≤ sealS lvH lvL ∧ sealS lvH lvL < 65536
  decide +kernel
theorem lv_decB : decB 3 lvL = some lvB := by
  rw [← lv_lay]
  exact decB_layB lvB_ok ((mayB_iff _ _).1 lv_encok.may)
theorem lv_chkE : chkE (sealH lvH lvL) lvL = 0 := by
  have h5 : decB (sealH lvH lvL).typ lvL = some lvB := lv_decB
  unfold chkE
  rw [if_neg (by decide), if_neg (by rintro (q | q); exact lv_sum0 q; rw [lv_whole] at q; cases q), if_neg (by decide), if_neg (by decide), if_neg (by rw [h5]; simp)]
theorem lv_dec (u : Value) (w : World) (hv : ArgAt w u lvL) : Calls Try.prog 9 #[(sealH lvH lvL).sv u] w fun e w' => ∃ (a1 : Option Addr) (q1 : Nat) (a3 : Option Addr) (q3 : Nat) (a8 : Option Addr) (q8 : Nat), e = .returned (.tuple #[.agg #[.int .u8 0, .slice a1 0 q1, .int .u32 4294967040, .slice a3 0 q3, .int .u32 10, .bool false, .int .u32 0, .int .u32 0, .slice a8 0 q8], .int .i64 0]) ∧ Touch (fun _ => False) w w' := by
  refine (decode_good (sealH lvH lvL) lv_sealAll u lvL w lvB hv lv_byte (by decide) (by decide) lv_decB).mono ?_
  rintro e w' ⟨vl, vr, vd, rfl, o, t⟩
  obtain ⟨a1, q1, a3, q3, a8, q8, rfl, rfl, rfl⟩ := o.form
  exact ⟨a1, q1, a3, q3, a8, q8, rfl, t⟩
theorem lv_chk (u : Value) (w : World) (hv : ArgAt w u lvL) : Calls Try.prog 14 #[(sealH lvH lvL).sv u] w fun e w' => e = .returned (.int .i64 0) ∧ Touch (fun _ => False) w w' := by
  have := check_any (sealH lvH lvL) lv_sealAll u lvL w hv lv_byte (by decide)
  rwa [lv_chkE] at this
set_option maxHeartbeats 1000000 in
theorem lives6 (w : World) : Calls Try.prog 6 #[] w fun e w' => e = .returned (.bool true) ∧ Touch (fun _ => False) w w' := by
  go_enter Try.func6, Try.ntmps6
  go_wp2_with fail
  refine Calls.mono (lv_enc _) ?_
  rintro e w1 ⟨u, rfl, b1⟩
  obtain ⟨ua, uc, rfl⟩ := b1.form
  have HD := fun w h => lv_dec (.slice ua lvL.length uc) w h
  have HCk := fun w h => lv_chk (.slice ua lvL.length uc) w h
  have B1 : Hid (Buf w w1 (.slice ua lvL.length uc) lvL) := b1
  have e8 : lvL.length = 8 := rfl
  clear b1
  unfold HV.sv sealH at HD HCk ⊢
  simp only [lvH] at HD HCk ⊢
  generalize sealS _ lvL = SS at HD HCk ⊢
  have e28 : (20 : Int) + (lvL.length : Int) = 28 := rfl
  simp only [e28] at HD HCk ⊢
  simp only [e8] at HD HCk ⊢
  replace B1 : Hid (Buf w w1 (.slice ua 8 uc) lvL) := B1
  clear e28 e8
  have S1 : Sd (w1.alloc (.cells #[.int .u16 0, .int .u8 0, .int .u8 3, .int .u32 0, .int .u32 0, .int .i32 1, .int .u16 SS, .int .u16 28, .slice ua 8 uc] 34)) w1.heap.size ⟨0, 0, 3, 0, 0, 1, SS, 28⟩ (.slice ua 8 uc) := Sd.new w1 ⟨0, 0, 3, 0, 0, 1, SS, 28⟩ (.slice ua 8 uc) 34
  go_wp2_with fail
  refine Calls.mono (HD _ (B1.out.arg.keepN ((Touch.refl _ _).alloc _))) ?_
  rintro e w2 ⟨a1, q1, a3, q3, a8, q8, rfl, t2⟩
  have HS2 : Hid (Sd w2 w1.heap.size ⟨0, 0, 3, 0, 0, 1, SS, 28⟩ (.slice ua 8 uc)) := S1.keep t2
  have T2 : Hid (Touch (fun _ => False) w1 w2) := ((Touch.refl _ w1).alloc _).trans t2
  have m2 : (w2.alloc (.cells #[.int .u8 0, .slice a1 0 q1, .int .u32 4294967040, .slice a3 0 q3, .int .u32 10, .bool false, .int .u32 0, .int .u32 0, .slice a8 0 q8] 30)).cell? ⟨w2.heap.size, 4, none⟩ = some (.int .u32 10) := by simp [go_sem]
  clear S1 t2 HD
  go_wp2_with fail
  refine Calls.mono (lv_enc6 _) ?_
  rintro e w3 ⟨rfl, t3⟩
  have c3 := t3.cellN m2
  have T3 : Hid (Touch (fun _ => False) w1 w3) := (T2.out.alloc _).trans t3
  have h3 : w2.heap.size < w3.heap.size := lt_of_cell c3
  obtain ⟨⟨s0, s1, s2, s3, s4, s5, s6, s7⟩, s8⟩ := (HS2.out.keep ((Touch.refl _ _).alloc _)).keep t3
  dsimp only at s0 s1 s2 s3 s4 s5 s6 s7
  have h31 : w1.heap.size < w3.heap.size := lt_of_cell s0
  clear m2 t3 HS2 T2
  have hx1 : ¬ w1.heap.size = w3.heap.size := by omega
  have hx2 : ¬ w2.heap.size = w3.heap.size := by omega
  go_wp2_with fail
  refine Calls.mono (HCk _ ((B1.out.arg.keepN T3.out).keepN ((Touch.refl _ _).alloc _))) ?_
  rintro e w4 ⟨rfl, t4⟩
  have T4 : Hid (Touch (fun _ => False) w w4) := (B1.out.t.trans (T3.out.alloc _)).trans t4
  clear t4 HCk s0 s1 s2 s3 s4 s5 s6 s7 s8 c3
  go_wp2
  go_ret
  exact ⟨rfl, T4.out⟩
end Go.Proofs.Ytfdpmlogieaiaaa

namespace Go.Proofs.Ytfdpmlogieaiaaa
open Go.RowKit
set_option linter.unusedVariables false
set_option maxRecDepth 100000

theorem cbytes_any (v : Value) (l : List Int) (w : World) (hv : ArgAt w v l) (hl : l.length ≤ 1000000) : Calls Try.prog 23 #[v] w fun e w' => ∃ u, e = .returned u ∧ Buf w w' u l := by
  have HV' : Hid (ArgAt w v l) := hv
  clear hv
  go_enter Try.func23, Try.ntmps23
  go_wp2_with (at_builtin; refine app_arg rfl (.tmp 4) (.tmp 5) rfl w (.slice none 0 0) [] rfl (Buf.nil (Touch.refl _ _)) v l rfl HV'.out (by simp; omega) ?_)
  intro v' w' b
  obtain ⟨xa, xc, rfl⟩ := b.form
  have B : Hid (Buf w w' (.slice xa ([] ++ l).length xc) ([] ++ l)) := b
  clear b
  go_wp2
  go_ret
  exact ⟨_, rfl, by simpa using B.out⟩
set_option maxHeartbeats 1000000 in
theorem cstate_any (h : HV) (v : Value) (rs : List Int) (w : World) (hv : ArgAt w v rs) (hl : rs.length ≤ 1000000) : Calls Try.prog 10 #[h.sv v] w fun e w' => ∃ u, e = .returned (h.sv u) ∧ Buf w w' u rs := by
  obtain ⟨a, c, rfl, hm⟩ := hv.form
  have HC := fun w h => cbytes_any (.slice a rs.length c) rs w h hl
  have HV' : Hid (ArgAt w (.slice a rs.length c) rs) := hv
  clear hv
  show Calls Try.prog 10 #[.agg #[.int .u16 h.age, .int .u8 h.opts, .int .u8 h.typ, .int .u32 h.id, .int .u32 h.adv, .int .i32 h.seq, .int .u16 h.sum, .int .u16 h.len, .slice a rs.length c]] w _
  go_enter Try.func10, Try.ntmps10
  go_wp2_with fail
  refine Calls.mono (HC _ (HV'.out.keepN (((Touch.refl _ _).alloc _).alloc _))) ?_
  rintro e w1 ⟨u, rfl, b1⟩
  obtain ⟨xa, xc, rfl⟩ := b1.form
  have O1 : Out w1 w.heap.size h (.slice a rs.length c) := ((Out.new w h (.slice a rs.length c) 34).keep ((Touch.refl _ _).alloc _)).keep b1.t
  have O2 : Hid (Out (w1.setCell ⟨w.heap.size, 8, none⟩ (.slice xa rs.length xc)) w.heap.size h (.slice xa rs.length xc)) := O1.set8 _
  have R1 : Room w1 (w.heap.size + 1) 9 := by
    have := (Room.new (w.alloc (.cells #[.int .u16 h.age, .int .u8 h.opts, .int .u8 h.typ, .int .u32 h.id, .int .u32 h.adv, .int .i32 h.seq, .int .u16 h.sum, .int .u16 h.len, .slice a rs.length c] 34)) #[.int .u16 0, .int .u8 0, .int .u8 0, .int .u32 0, .int .u32 0, .int .i32 0, .int .u16 0, .int .u16 0, .slice none 0 0] 34).keep b1.t
    simpa using this
  have U2 : Touch (fun k => k = w.heap.size) w1 (w1.setCell ⟨w.heap.size, 8, none⟩ (.slice xa rs.length xc)) := Touch.setCell (F := fun k => k = w.heap.size) (p := ⟨w.heap.size, 8, none⟩) (Touch.refl _ _) (Or.inl rfl) _
  have R2 : Hid (Room (w1.setCell ⟨w.heap.size, 8, none⟩ (.slice xa rs.length xc)) (w.heap.size + 1) 9) := R1.touch U2 (by show ¬ w.heap.size + 1 = w.heap.size; omega)
  have hgb : Hid (∀ k, (Value.slice xa rs.length xc).ownBlock = some k → w.heap.size + 1 < k) := fun k hk => by have := (b1.own.lt k hk).1; simp at this; omega
  have B2 : Hid ((w1.setCell ⟨w.heap.size, 8, none⟩ (.slice xa rs.length xc)).ownsRow w.heap.size 5 1 (.slice xa rs.length xc) rs.length (bytesOf rs)) := own_lower (own_touch b1.own U2 (fun k hk e => by have := hgb.out k hk; omega)) (by simp; omega)
  have T2 : Hid (Touch (fun _ => False) w (w1.setCell ⟨w.heap.size, 8, none⟩ (.slice xa rs.length xc))) := ((((Touch.refl _ w).alloc _).alloc _).trans b1.t).setCell (Or.inr (Nat.le_refl _)) _
  obtain ⟨⟨⟨s0, s1, s2, s3, s4, s5, s6, s7⟩, s8⟩, f6, f7, f8⟩ := O1.fits
  clear b1 O1 R1 U2 HC
  go_upto_region 2 with fail
  clear s0 s1 s2 s3 s4 s5 s6 s7 s8 f6 f7 f8
  have hne : ¬ w.heap.size = w.heap.size + 1 := by omega
  have hne' : ¬ w.heap.size + 1 = w.heap.size := by omega
  generalize w1.setCell ⟨w.heap.size, 8, none⟩ (.slice xa rs.length xc) = w2 at *
  obtain ⟨⟨⟨s0, s1, s2, s3, s4, s5, s6, s7⟩, s8⟩, -⟩ := O2.out.fits
  generalize hg : w.heap.size + 1 = g at *
  have HG : Hid (w.heap.size + 1 = g) := hg
  clear hg
  obtain ⟨zz0, zc0, zf0⟩ := R2.out 0 (by omega)
  obtain ⟨zz1, zc1, zf1⟩ := R2.out 1 (by omega)
  obtain ⟨zz2, zc2, zf2⟩ := R2.out 2 (by omega)
  obtain ⟨zz3, zc3, zf3⟩ := R2.out 3 (by omega)
  obtain ⟨zz4, zc4, zf4⟩ := R2.out 4 (by omega)
  obtain ⟨zz5, zc5, zf5⟩ := R2.out 5 (by omega)
  obtain ⟨zz6, zc6, zf6⟩ := R2.out 6 (by omega)
  obtain ⟨zz7, zc7, zf7⟩ := R2.out 7 (by omega)
  obtain ⟨zz8, zc8, zf8⟩ := R2.out 8 (by omega)
  obtain ⟨wz, hwz⟩ : ∃ wz, wz = (((((((((w2.setCell ⟨g, 0, none⟩ (.int .u16 h.age)).setCell ⟨g, 1, none⟩ (.int .u8 h.opts)).setCell ⟨g, 2, none⟩ (.int .u8 h.typ)).setCell ⟨g, 3, none⟩ (.int .u32 h.id)).setCell ⟨g, 4, none⟩ (.int .u32 h.adv)).setCell ⟨g, 5, none⟩ (.int .i32 h.seq)).setCell ⟨g, 6, none⟩ (.int .u16 h.sum)).setCell ⟨g, 7, none⟩ (.int .u16 h.len)).setCell ⟨g, 8, none⟩ (.slice xa rs.length xc)) := ⟨_, rfl⟩
  have zd0 : wz.cell? ⟨g, 0, none⟩ = some (.int .u16 h.age) := by rw [hwz]; simp [zc0, go_sem]
  have zd1 : wz.cell? ⟨g, 1, none⟩ = some (.int .u8 h.opts) := by rw [hwz]; simp [zc1, go_sem]
  have zd2 : wz.cell? ⟨g, 2, none⟩ = some (.int .u8 h.typ) := by rw [hwz]; simp [zc2, go_sem]
  have zd3 : wz.cell? ⟨g, 3, none⟩ = some (.int .u32 h.id) := by rw [hwz]; simp [zc3, go_sem]
  have zd4 : wz.cell? ⟨g, 4, none⟩ = some (.int .u32 h.adv) := by rw [hwz]; simp [zc4, go_sem]
  have zd5 : wz.cell? ⟨g, 5, none⟩ = some (.int .i32 h.seq) := by rw [hwz]; simp [zc5, go_sem]
  have zd6 : wz.cell? ⟨g, 6, none⟩ = some (.int .u16 h.sum) := by rw [hwz]; simp [zc6, go_sem]
  have zd7 : wz.cell? ⟨g, 7, none⟩ = some (.int .u16 h.len) := by rw [hwz]; simp [zc7, go_sem]
  have zd8 : wz.cell? ⟨g, 8, none⟩ = some (.slice xa rs.length xc) := by rw [hwz]; simp [zc8, go_sem]
  have HUz : Hid (Touch (fun k => k = g) w2 wz) := by show Touch _ _ _; rw [hwz]; refine Touch.setCell (F := fun k => k = g) (p := ⟨g, 8, none⟩) ?_ (Or.inl rfl) _; refine Touch.setCell (F := fun k => k = g) (p := ⟨g, 7, none⟩) ?_ (Or.inl rfl) _; refine Touch.setCell (F := fun k => k = g) (p := ⟨g, 6, none⟩) ?_ (Or.inl rfl) _; refine Touch.setCell (F := fun k => k = g) (p := ⟨g, 5, none⟩) ?_ (Or.inl rfl) _; refine Touch.setCell (F := fun k => k = g) (p := ⟨g, 4, none⟩) ?_ (Or.inl rfl) _; refine Touch.setCell (F := fun k => k = g) (p := ⟨g, 3, none⟩) ?_ (Or.inl rfl) _; refine Touch.setCell (F := fun k => k = g) (p := ⟨g, 2, none⟩) ?_ (Or.inl rfl) _; refine Touch.setCell (F := fun k => k = g) (p := ⟨g, 1, none⟩) ?_ (Or.inl rfl) _; refine Touch.setCell (F := fun k => k = g) (p := ⟨g, 0, none⟩) ?_ (Or.inl rfl) _; exact Touch.refl _ _
  have HWz : Hid (wz = (((((((((w2.setCell ⟨g, 0, none⟩ (.int .u16 h.age)).setCell ⟨g, 1, none⟩ (.int .u8 h.opts)).setCell ⟨g, 2, none⟩ (.int .u8 h.typ)).setCell ⟨g, 3, none⟩ (.int .u32 h.id)).setCell ⟨g, 4, none⟩ (.int .u32 h.adv)).setCell ⟨g, 5, none⟩ (.int .i32 h.seq)).setCell ⟨g, 6, none⟩ (.int .u16 h.sum)).setCell ⟨g, 7, none⟩ (.int .u16 h.len)).setCell ⟨g, 8, none⟩ (.slice xa rs.length xc))) := hwz
  clear hwz
  go_wp2_with fail
  rw [← HWz.out]
  clear HWz zc0 zf0 zc1 zf1 zc2 zf2 zc3 zf3 zc4 zf4 zc5 zf5 zc6 zf6 zc7 zf7 zc8 zf8
  refine bodyPost_ret (v := .agg #[.int .u16 h.age, .int .u8 h.opts, .int .u8 h.typ, .int .u32 h.id, .int .u32 h.adv, .int .i32 h.seq, .int .u16 h.sum, .int .u16 h.len, .slice xa rs.length xc]) (by simp [results, Try.results10, go_sem, zd0, zd1, zd2, zd3, zd4, zd5, zd6, zd7, zd8]) rfl ?_
  exact ⟨_, rfl, ⟨own_touch B2.out HUz.out (fun k hk e => by have := hgb.out k hk; omega), T2.out.trans' HUz.out (fun i hi e => by have := HG.out; omega)⟩⟩

/-- Two states that are the same. -/
theorem estate_true (h : HV) (va vb : Value) (rs : List Int) (w : World) (ha : RowAt w va rs) (hb : ArgAt w vb rs) : Calls Try.prog 13 #[h.sv va, h.sv vb] w fun e w' => e = .returned (.bool true) ∧ Touch (fun _ => False) w w' := by
  obtain ⟨aa, ca, rfl, _⟩ := rowAt_form ha
  obtain ⟨ab, cb, rfl, _⟩ := hb.form
  have HE := fun w ha hb => eq_true (.slice aa rs.length ca) (.slice ab rs.length cb) rs w ha hb
  have HA : Hid (RowAt w (.slice aa rs.length ca) rs) := ha
  have HB : Hid (ArgAt w (.slice ab rs.length cb) rs) := hb
  clear ha hb
  show Calls Try.prog 13 #[.agg #[.int .u16 h.age, .int .u8 h.opts, .int .u8 h.typ, .int .u32 h.id, .int .u32 h.adv, .int .i32 h.seq, .int .u16 h.sum, .int .u16 h.len, .slice aa rs.length ca], .agg #[.int .u16 h.age, .int .u8 h.opts, .int .u8 h.typ, .int .u32 h.id, .int .u32 h.adv, .int .i32 h.seq, .int .u16 h.sum, .int .u16 h.len, .slice ab rs.length cb]] w _
  go_enter Try.func13, Try.ntmps13
  go_wp2_with fail
  refine Calls.mono (HE _ (HA.out.touch (((Touch.refl (fun _ => False) w).alloc _).alloc _) (fun _ _ h => h)) (HB.out.keepN (((Touch.refl _ w).alloc _).alloc _))) ?_
  rintro e w1 ⟨rfl, nd, rfl⟩
  go_wp2
  go_ret
  exact ⟨rfl, (((Touch.refl _ w).alloc _).alloc _).drewN nd⟩
end Go.Proofs.Ytfdpmlogieaiaaa
