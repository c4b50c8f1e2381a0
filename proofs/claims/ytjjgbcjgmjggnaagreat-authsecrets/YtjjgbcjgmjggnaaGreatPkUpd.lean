/- Package packet's writer: update. -/
import Derived.Test.YtjjgbcjgmjggnaaGreatPkReq
import Derived.Test.YtjjgbcjgmjggnaaGreatStRow0
import Derived.Deep.RegionHeld2
import Derived.Deep.DeepCutAuto
namespace Go.Proofs.YtjjgbcjgmjggnaaGreat
open Go.RowKit
set_option linter.unusedVariables false
set_option maxRecDepth 100000

def stB (x : SE) : List Int := headB x.h ++ x.rs
def stsB (l : List SE) : List Int := l.flatMap stB
theorem stsB_snoc (l : List SE) (x : SE) : stsB (l ++ [x]) = stsB l ++ stB x := by simp [stsB]
theorem stsB_parts (l : List SE) (k : Nat) (x : SE) (hx : l[k]? = some x) : (stsB (l.take k)).length + (stB x).length ≤ (stsB l).length := by
  have h : stsB l = stsB (l.take (k + 1)) ++ stsB (l.drop (k + 1)) := by
    unfold stsB
    rw [← List.flatMap_append, List.take_append_drop]
  rw [h, List.take_add_one, hx, show (some x).toList = [x] from rfl, stsB_snoc, List.length_append, List.length_append]
  omega
structure UpR (Y : Nat → Prop) (wa : World) (b : Nat) (L : List Int) (ks : List SE) (k : Nat) (i : Value) (wx : World) : Prop where
  out : ∃ j : Nat, j ≤ ks.length ∧ k = ks.length - j ∧ i = .int .i64 (j : Int) ∧ WL Y wa wx b (L ++ stsB (ks.take j)) 65535

set_option maxHeartbeats 4000000 in
theorem pwupd_any (X : Nat → Prop) (b : Nat) (L : List Int) (P : PV) (ok : P.Ok) (vn vd vk vs vh : Value) (w : World) (hw : Wr X w b L 65535) (hL : L.length ≤ 24) (ks : List SE) (hv : ∀ w', Kept X w w' → StatesAt w' vs ks) (hn : ks.length ≤ 1000000) (hr : ∀ x ∈ ks, x.rs.length ≤ 1000000) :
    Calls Tryz.prog 96 #[.agg #[.pointer (some ⟨b, 0, none⟩)], P.v vn vd vk vs vh] w fun e w' => PW X w b L (numBytes 4 (ks.length : Int) ++ stsB ks) e w' := by
  obtain ⟨da, dc, rfl, hmx⟩ := ValsAt.form (hv w (Kept.refl _ _)).vals
  obtain ⟨wa, hwa⟩ : ∃ wa, wa = (w.alloc (.cells #[.pointer (some ⟨b, 0, none⟩)] 114)).alloc (.cells #[.int .u8 P.typ, .int .u32 P.router, .int .u32 P.area, .int .u32 P.mask, .int .u16 P.iv, .int .u8 P.opts, .int .u8 P.prio, .int .u32 P.dead, .int .u32 P.dr, .int .u32 P.bdr, vn, .int .u16 P.mtu, .int .u8 P.dopts, .int .u8 P.dflags, .int .u32 P.dseq, vd, vk, (.slice da ks.length dc), vh] 33) := ⟨_, rfl⟩
  have ta : Touch (fun _ => False) w wa := by rw [hwa]; exact ((Touch.refl _ w).alloc _).alloc _
  have za : wa.heap.size = w.heap.size + 2 := by rw [hwa]; simp
  have ca : wa.cell? ⟨w.heap.size, 0, none⟩ = some (.pointer (some ⟨b, 0, none⟩)) := by rw [hwa]; simp [go_sem]
  have pa : Pd wa (w.heap.size + 1) P vn vd vk (.slice da ks.length dc) vh := by
    have := Pd.new (w.alloc (.cells #[.pointer (some ⟨b, 0, none⟩)] 114)) P vn vd vk (.slice da ks.length dc) vh 33
    rw [← hwa] at this
    simpa using this
  obtain ⟨Y, hY⟩ : ∃ Y : Nat → Prop, Y = fun k => X k ∨ (w.heap.size ≤ k ∧ k < wa.heap.size) := ⟨_, rfl⟩
  have ya : ∀ k, w.heap.size ≤ k → k < w.heap.size + 2 → Y k := by subst hY; exact fun k h1 h2 => Or.inr (by omega)
  have WA : Hid (Wr Y wa b L 65535) := by subst hY; exact hw.more ta (fun k hk => hk)
  have YX : Hid (∀ k, X k → Y k) := by subst hY; exact fun k hk => Or.inl hk
  have TA : Hid (Touch (fun _ => False) w wa) := ta
  have KX : Hid (∀ w', Kept Y wa w' → Kept X w w') := fun w' h => (Kept.of TA.out).trans (h.less (fun k _ hk => YX.out k hk))
  have c0 := hold_cell ca (ya _ (by dsimp only; omega) (by dsimp only; omega))
  have p17 := hold_cell pa.c17 (ya _ (by dsimp only; omega) (by dsimp only; omega))
  show Calls Tryz.prog 96 #[.agg #[.pointer (some ⟨b, 0, none⟩)], .agg #[.int .u8 P.typ, .int .u32 P.router, .int .u32 P.area, .int .u32 P.mask, .int .u16 P.iv, .int .u8 P.opts, .int .u8 P.prio, .int .u32 P.dead, .int .u32 P.dr, .int .u32 P.bdr, vn, .int .u16 P.mtu, .int .u8 P.dopts, .int .u8 P.dflags, .int .u32 P.dseq, vd, vk, (.slice da ks.length dc), vh]] w _
  have d0 := c0 wa ⟨Kept.refl _ _⟩
  have d17 := p17 wa ⟨Kept.refl _ _⟩
  have qn : IntKind.u32.wrap (ks.length : Int) = (ks.length : Int) := wrap_u32 (by omega) (by omega)
  have HNU := pnum_i 4 (by omega) (ks.length : Int) (show WL Y wa wa b L 24 from ⟨⟨Kept.refl _ _⟩, WA.out, hL⟩) (by omega) (by simp [numTop]; omega) (by simp)
  have HW : Hid (∀ w', Hold Y wa w' → StatesAt w' (.slice da ks.length dc) ks) := fun w' h => hv w' (KX.out w' h.k)
  have HR : Hid (∀ x ∈ ks, x.rs.length ≤ 1000000) := hr
  have YA : Hid (Y w.heap.size) := ya _ (by omega) (by omega)
  have hmx' : (ks.length : Int) ≤ 1000000 := by omega
  clear hw hL hv ok ta za ca pa hY ya hmx hn hr
  go_enter Tryz.func96, Tryz.ntmps96
  go_wp2_with fail
  rw [← hwa]
  clear hwa
  generalize w.heap.size + 1 = g2 at *
  generalize w.heap.size = g1 at *
  refine Calls.mono HNU ?_
  rintro e w1 ⟨rfl, h1⟩
  have REL : Hid (UpR Y wa b (L ++ numBytes 4 (ks.length : Int)) ks ks.length (.int .i64 0) w1) := ⟨0, by omega, by omega, rfl, ⟨h1.k, by simpa [stsB] using h1.wr, by have := h1.le; simp [stsB] at this ⊢; omega⟩⟩
  have f0 := c0 _ h1.k
  have f17 := p17 _ h1.k
  clear d0 d17 HNU h1 qn WA TA
  go_wp2_with fail
  clear f0 f17 p17
  go_loopg [15] ks.length (fun k i wx => UpR Y wa b (L ++ numBytes 4 (ks.length : Int)) ks k i wx)
  case atStart => exact REL.out
  case round =>
    clear REL
    obtain ⟨k, hk, hgk, rfl, hwl⟩ := hrel.out
    have WLr : Hid (WL Y wa wr b ((L ++ numBytes 4 (ks.length : Int)) ++ stsB (ks.take k)) 65535) := hwl
    have d0 := c0 _ hwl.k
    clear hwl hrel
    by_cases hlt : k < ks.length
    · have hlt' : (k : Int) < (ks.length : Int) := by omega
      have hk0 : (0 : Int) ≤ (k : Int) := by omega
      obtain ⟨x, hx⟩ : ∃ x, ks[k]? = some x := ⟨ks[k], by simp [hlt]⟩
      obtain ⟨ox, gR, off, cR, eR, hcell⟩ := StatesAt.one (HW.out wr WLr.out.k) hx
      obtain ⟨xa, xc, ex, -⟩ := ox.arg.form
      cases eR
      have e0 : wr.cell? ⟨gR, off + k * 9, none⟩ = some (.int .u16 x.h.age) := by exact hcell 0 _ rfl
      have e1 : wr.cell? ⟨gR, off + k * 9 + 1, none⟩ = some (.int .u8 x.h.opts) := by rw [Nat.add_assoc]; exact hcell 1 _ rfl
      have e2 : wr.cell? ⟨gR, off + k * 9 + 2, none⟩ = some (.int .u8 x.h.typ) := by rw [Nat.add_assoc]; exact hcell 2 _ rfl
      have e3 : wr.cell? ⟨gR, off + k * 9 + 3, none⟩ = some (.int .u32 x.h.id) := by rw [Nat.add_assoc]; exact hcell 3 _ rfl
      have e4 : wr.cell? ⟨gR, off + k * 9 + 4, none⟩ = some (.int .u32 x.h.adv) := by rw [Nat.add_assoc]; exact hcell 4 _ rfl
      have e5 : wr.cell? ⟨gR, off + k * 9 + 5, none⟩ = some (.int .i32 x.h.seq) := by rw [Nat.add_assoc]; exact hcell 5 _ rfl
      have e6 : wr.cell? ⟨gR, off + k * 9 + 6, none⟩ = some (.int .u16 x.h.sum) := by rw [Nat.add_assoc]; exact hcell 6 _ rfl
      have e7 : wr.cell? ⟨gR, off + k * 9 + 7, none⟩ = some (.int .u16 x.h.len) := by rw [Nat.add_assoc]; exact hcell 7 _ rfl
      have e8 : wr.cell? ⟨gR, off + k * 9 + 8, none⟩ = some (.slice xa x.rs.length xc) := by rw [← ex]; rw [Nat.add_assoc]; exact hcell 8 _ rfl
      have OX : Hid x.h.All := ox.all
      have AX : Hid (ArgAt wr (.slice xa x.rs.length xc) x.rs) := by rw [← ex]; exact ox.arg
      have RX : Hid (x.rs.length ≤ 1000000) := HR.out x (List.mem_of_getElem? hx)
      have hkw : wrap64 ((k : Int) + 1) = (k : Int) + 1 := by unfold wrap64; omega
      have NO : Hid (65535 < ((L ++ numBytes 4 (ks.length : Int)) ++ stsB (ks.take k)).length + (stB x).length → 65535 < L.length + (numBytes 4 (ks.length : Int) ++ stsB ks).length) := by
        intro h
        have := stsB_parts ks k x hx
        simp only [List.length_append] at h ⊢
        omega
      have HN : Hid ((L ++ numBytes 4 (ks.length : Int)) ++ stsB (ks.take (k + 1)) = ((L ++ numBytes 4 (ks.length : Int)) ++ stsB (ks.take k)) ++ stB x) := by show _ = _; rw [List.take_add_one, hx, show (some x).toList = [x] from rfl, stsB_snoc, List.append_assoc _ (stsB _)]
      clear hcell hx ox ex
      have t4 : Touch (fun _ => False) wr (wr.alloc (.cells #[.int .u16 x.h.age, .int .u8 x.h.opts, .int .u8 x.h.typ, .int .u32 x.h.id, .int .u32 x.h.adv, .int .i32 x.h.seq, .int .u16 x.h.sum, .int .u16 x.h.len, .slice xa x.rs.length xc] 95)) := (Touch.refl _ _).alloc _
      have k0 : (wr.alloc (.cells #[.int .u16 x.h.age, .int .u8 x.h.opts, .int .u8 x.h.typ, .int .u32 x.h.id, .int .u32 x.h.adv, .int .i32 x.h.seq, .int .u16 x.h.sum, .int .u16 x.h.len, .slice xa x.rs.length xc] 95)).cell? ⟨wr.heap.size, 0, none⟩ = some (.int .u16 x.h.age) := by simp [go_sem]
      have k1 : (wr.alloc (.cells #[.int .u16 x.h.age, .int .u8 x.h.opts, .int .u8 x.h.typ, .int .u32 x.h.id, .int .u32 x.h.adv, .int .i32 x.h.seq, .int .u16 x.h.sum, .int .u16 x.h.len, .slice xa x.rs.length xc] 95)).cell? ⟨wr.heap.size, 1, none⟩ = some (.int .u8 x.h.opts) := by simp [go_sem]
      have k2 : (wr.alloc (.cells #[.int .u16 x.h.age, .int .u8 x.h.opts, .int .u8 x.h.typ, .int .u32 x.h.id, .int .u32 x.h.adv, .int .i32 x.h.seq, .int .u16 x.h.sum, .int .u16 x.h.len, .slice xa x.rs.length xc] 95)).cell? ⟨wr.heap.size, 2, none⟩ = some (.int .u8 x.h.typ) := by simp [go_sem]
      have k3 : (wr.alloc (.cells #[.int .u16 x.h.age, .int .u8 x.h.opts, .int .u8 x.h.typ, .int .u32 x.h.id, .int .u32 x.h.adv, .int .i32 x.h.seq, .int .u16 x.h.sum, .int .u16 x.h.len, .slice xa x.rs.length xc] 95)).cell? ⟨wr.heap.size, 3, none⟩ = some (.int .u32 x.h.id) := by simp [go_sem]
      have k4 : (wr.alloc (.cells #[.int .u16 x.h.age, .int .u8 x.h.opts, .int .u8 x.h.typ, .int .u32 x.h.id, .int .u32 x.h.adv, .int .i32 x.h.seq, .int .u16 x.h.sum, .int .u16 x.h.len, .slice xa x.rs.length xc] 95)).cell? ⟨wr.heap.size, 4, none⟩ = some (.int .u32 x.h.adv) := by simp [go_sem]
      have k5 : (wr.alloc (.cells #[.int .u16 x.h.age, .int .u8 x.h.opts, .int .u8 x.h.typ, .int .u32 x.h.id, .int .u32 x.h.adv, .int .i32 x.h.seq, .int .u16 x.h.sum, .int .u16 x.h.len, .slice xa x.rs.length xc] 95)).cell? ⟨wr.heap.size, 5, none⟩ = some (.int .i32 x.h.seq) := by simp [go_sem]
      have k6 : (wr.alloc (.cells #[.int .u16 x.h.age, .int .u8 x.h.opts, .int .u8 x.h.typ, .int .u32 x.h.id, .int .u32 x.h.adv, .int .i32 x.h.seq, .int .u16 x.h.sum, .int .u16 x.h.len, .slice xa x.rs.length xc] 95)).cell? ⟨wr.heap.size, 6, none⟩ = some (.int .u16 x.h.sum) := by simp [go_sem]
      have k7 : (wr.alloc (.cells #[.int .u16 x.h.age, .int .u8 x.h.opts, .int .u8 x.h.typ, .int .u32 x.h.id, .int .u32 x.h.adv, .int .i32 x.h.seq, .int .u16 x.h.sum, .int .u16 x.h.len, .slice xa x.rs.length xc] 95)).cell? ⟨wr.heap.size, 7, none⟩ = some (.int .u16 x.h.len) := by simp [go_sem]
      have k8 : (wr.alloc (.cells #[.int .u16 x.h.age, .int .u8 x.h.opts, .int .u8 x.h.typ, .int .u32 x.h.id, .int .u32 x.h.adv, .int .i32 x.h.seq, .int .u16 x.h.sum, .int .u16 x.h.len, .slice xa x.rs.length xc] 95)).cell? ⟨wr.heap.size, 8, none⟩ = some (.slice xa x.rs.length xc) := by simp [go_sem]
      have z4 : (wr.alloc (.cells #[.int .u16 x.h.age, .int .u8 x.h.opts, .int .u8 x.h.typ, .int .u32 x.h.id, .int .u32 x.h.adv, .int .i32 x.h.seq, .int .u16 x.h.sum, .int .u16 x.h.len, .slice xa x.rs.length xc] 95)).heap.size = wr.heap.size + 1 := by simp
      go_upto_region 5 with fail
      generalize wr.alloc (.cells #[.int .u16 x.h.age, .int .u8 x.h.opts, .int .u8 x.h.typ, .int .u32 x.h.id, .int .u32 x.h.adv, .int .i32 x.h.seq, .int .u16 x.h.sum, .int .u16 x.h.len, .slice xa x.rs.length xc] 95) = w4 at *
      obtain ⟨Y5, hY5⟩ : ∃ Y5 : Nat → Prop, Y5 = fun k => Y k ∨ (wr.heap.size ≤ k ∧ k < w4.heap.size) := ⟨_, rfl⟩
      have y5 : Y5 wr.heap.size := by subst hY5; exact Or.inr (by omega)
      have Y5Y : ∀ k, Y k → Y5 k := by subst hY5; exact fun k hk => Or.inl hk
      have W4 : WL Y5 w4 w4.drew b ((L ++ numBytes 4 (ks.length : Int)) ++ stsB (ks.take k)) 65535 := ⟨⟨Kept.of ((Touch.refl _ _).drew)⟩, by subst hY5; exact (WLr.out.wr.more t4 (fun k hk => hk)).keep ((Touch.refl _ _).drew), WLr.out.le⟩
      have BK : Hid (∀ w', Hold Y5 w4 w' → Hold Y wa w') := fun w' h => ⟨WLr.out.k.k.trans ((Kept.of t4).trans (h.k.less (fun k _ hk => Y5Y k hk)))⟩
      have LS : Hid (∀ w' l, Wr Y5 w' b l 65535 → Wr Y w' b l 65535) := fun w' l h => h.less Y5Y
      have AD : Hid (ArgAt w4.drew (.slice xa x.rs.length xc) x.rs) := (AX.out.keep t4 (fun _ _ h => h)).keep ((Touch.refl _ _).drew) (fun _ _ h => h)
      have d1 := hold_cell (t4.cellN d0) (Y5Y _ YA.out)
      have h0 := hold_cell k0 y5
      have h1 := hold_cell k1 y5
      have h2 := hold_cell k2 y5
      have h3 := hold_cell k3 y5
      have h4 := hold_cell k4 y5
      have h5 := hold_cell k5 y5
      have h6 := hold_cell k6 y5
      have h7 := hold_cell k7 y5
      have h8 := hold_cell k8 y5
      have s4 := W4.k
      have HBY : Hid (Calls Tryz.prog 123 #[.agg #[.int .u16 x.h.age, .int .u8 x.h.opts, .int .u8 x.h.typ, .int .u32 x.h.id, .int .u32 x.h.adv, .int .i32 x.h.seq, .int .u16 x.h.sum, .int .u16 x.h.len, .slice xa x.rs.length xc]] w4.drew fun e w' => ∃ u, e = .returned u ∧ Buf w4.drew w' u (stB x)) := bytes_any x.h OX.out (.slice xa x.rs.length xc) x.rs w4.drew AD.out RX.out
      have hsb : Hid ((stB x).length ≤ 1099511627776) := by show _ ≤ _; unfold stB; rw [List.length_append, length_headB]; have := RX.out; omega
      clear hY5 y5 Y5Y t4 d0 k0 k1 k2 k3 k4 k5 k6 k7 k8 z4 WLr e0 e1 e2 e3 e4 e5 e6 e7 e8 AX
      generalize wr.heap.size = g5 at *
      generalize (L ++ numBytes 4 (ks.length : Int)) ++ stsB (ks.take k) = LL at *
      go_region_held2 (fun w' => Hold Y5 w4 w') (with_reducible assumption) (first
        | (go_at_call 123; refine Calls.mono HBY.out ?_; rintro e w5 ⟨u5, rfl, b5⟩; have W5 := W4.step b5.t; have s5 := W5.k; have a5 := b5.arg)
        | (go_at_call 91; refine Calls.mono (pwput_or _ (stB x) W5 (by omega) a5 hsb.out) ?_; rintro e w6 (⟨rfl, l6, s6, r6⟩ | ⟨rfl, l6, s6⟩); rotate_left; exact ⟨rfl, ⟨Or.inr ⟨rfl, NO.out l6, KX.out _ (BK.out _ s6).k⟩⟩⟩))
      have W7 : Hid (WL Y wa w6 b (LL ++ stB x) 65535) := ⟨BK.out _ s6, LS.out _ _ r6, by rw [List.length_append]; omega⟩
      clear s6 r6 l6 W5 s5 a5 b5 W4 s4 d1 NO HBY AD OX RX
      go_wp2_with fail
      go_roundg (ks.length - (k + 1))
      case measure => omega
      case rel => exact ⟨k + 1, by omega, by omega, by go_num, by rw [HN.out]; exact W7.out⟩
    · obtain rfl : k = ks.length := by omega
      have W5 : Hid (WL Y wa wr b (L ++ (numBytes 4 (ks.length : Int) ++ stsB ks)) 65535) := by have := WLr.out; rwa [List.take_length, List.append_assoc] at this
      clear WLr
      go_wp2_with fail
      go_end0
      exact ⟨Or.inl ⟨rfl, by have := W5.out.le; rwa [List.length_append] at this, W5.out.wr.less YX.out, KX.out _ W5.out.k.k⟩⟩
end Go.Proofs.YtjjgbcjgmjggnaaGreat
