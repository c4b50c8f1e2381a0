/- Package packet's writer: update. -/
import Derived.Test.YtjjgbcjgmjggnaaGreatRdAll2
import Derived.Test.YtjjgbcjgmjggnaaGreatStRow0
import Derived.Deep.RegionHeld2
import Derived.Deep.DeepCutAuto
import Derived.Test.YtjjgbcjgmjggnaaGreatDigMath
import Derived.Test.YtjjgbcjgmjggnaaGreatDigBuf
import Derived.Lib.AppendZerosOnto
import Derived.Lib.Walk
import Derived.Deep.LoopGhost
namespace Go.Proofs.YtjjgbcjgmjggnaaGreat
open Go.RowKit
set_option linter.unusedVariables false
set_option maxRecDepth 100000

def stB (x : SE) : List Int := headB x.h ++ x.rs
def stsB (l : List SE) : List Int := l.flatMap stB
theorem stsB_snoc (l : List SE) (x : SE) : stsB (l ++ [x]) = stsB l ++ stB x := by simp [stsB]
theorem stsB_parts (l : List SE) (k : Nat) (x : SE) (hx : l[k]? = some x) : (stsB (l.take k)).length + (stB x).length ≤ (stsB l).length := by
  have h : stsB l = stsB (l.take (k + 1)) ++ stsB (l.drop (k + 1)) := by
    unfold stsB
    rw [← List.flatMap_append, List.take_append_drop]
  rw [h, List.take_add_one, hx, show (some x).toList = [x] from rfl, stsB_snoc, List.length_append, List.length_append]
  omega
structure UpR (Y : Nat → Prop) (wa : World) (b : Nat) (L : List Int) (ks : List SE) (k : Nat) (i : Value) (wx : World) : Prop where
  out : ∃ j : Nat, j ≤ ks.length ∧ k = ks.length - j ∧ i = .int .i64 (j : Int) ∧ WL Y wa wx b (L ++ stsB (ks.take j)) 65535

set_option maxHeartbeats 4000000 in
theorem pwupd_any (X : Nat → Prop) (b : Nat) (L : List Int) (P : PV) (ok : P.Ok) (vn vd vk vs vh : Value) (w : World) (hw : Wr X w b L 65535) (hL : L.length ≤ 24) (ks : List SE) (hv : ∀ w', Kept X w w' → StatesAt w' vs ks) (hn : ks.length ≤ 1000000) (hr : ∀ x ∈ ks, x.rs.length ≤ 1000000) :
    Calls Tryz.prog 96 #[.agg #[.pointer (some ⟨b, 0, none⟩)], P.v vn vd vk vs vh] w fun e w' => PW X w b L (numBytes 4 (ks.length : Int) ++ stsB ks) e w' := by
  obtain ⟨da, dc, rfl, hmx⟩ := ValsAt.form (hv w (Kept.refl _ _)).vals
  obtain ⟨wa, hwa⟩ : ∃ wa, wa = (w.alloc (.cells #[.pointer (some ⟨b, 0, none⟩)] 114)).alloc (.cells #[.int .u8 P.typ, .int .u32 P.router, .int .u32 P.area, .int .u32 P.mask, .int .u16 P.iv, .int .u8 P.opts, .int .u8 P.prio, .int .u32 P.dead, .int .u32 P.dr, .int .u32 P.bdr, vn, .int .u16 P.mtu, .int .u8 P.dopts, .int .u8 P.dflags, .int .u32 P.dseq, vd, vk, (.slice da ks.length dc), vh] 33) := ⟨_, rfl⟩
  have ta : Touch (fun _ => False) w wa := by rw [hwa]; exact ((Touch.refl _ w).alloc _).alloc _
  have za : wa.heap.size = w.heap.size + 2 := by rw [hwa]; simp
  have ca : wa.cell? ⟨w.heap.size, 0, none⟩ = some (.pointer (some ⟨b, 0, none⟩)) := by rw [hwa]; simp [go_sem]
  have pa : Pd wa (w.heap.size + 1) P vn vd vk (.slice da ks.length dc) vh := by
    have := Pd.new (w.alloc (.cells #[.pointer (some ⟨b, 0, none⟩)] 114)) P vn vd vk (.slice da ks.length dc) vh 33
    rw [← hwa] at this
    simpa using this
  obtain ⟨Y, hY⟩ : ∃ Y : Nat → Prop, Y = fun k => X k ∨ (w.heap.size ≤ k ∧ k < wa.heap.size) := ⟨_, rfl⟩
  have ya : ∀ k, w.heap.size ≤ k → k < w.heap.size + 2 → Y k := by subst hY; exact fun k h1 h2 => Or.inr (by omega)
  have WA : Hid (Wr Y wa b L 65535) := by subst hY; exact hw.more ta (fun k hk => hk)
  have YX : Hid (∀ k, X k → Y k) := by subst hY; exact fun k hk => Or.inl hk
  have TA : Hid (Touch (fun _ => False) w wa) := ta
  have KX : Hid (∀ w', Kept Y wa w' → Kept X w w') := fun w' h => (Kept.of TA.out).trans (h.less (fun k _ hk => YX.out k hk))
  have c0 := hold_cell ca (ya _ (by dsimp only; omega) (by dsimp only; omega))
  have p17 := hold_cell pa.c17 (ya _ (by dsimp only; omega) (by dsimp only; omega))
  show Calls Tryz.prog 96 #[.agg #[.pointer (some ⟨b, 0, none⟩)], .agg #[.int .u8 P.typ, .int .u32 P.router, .int .u32 P.area, .int .u32 P.mask, .int .u16 P.iv, .int .u8 P.opts, .int .u8 P.prio, .int .u32 P.dead, .int .u32 P.dr, .int .u32 P.bdr, vn, .int .u16 P.mtu, .int .u8 P.dopts, .int .u8 P.dflags, .int .u32 P.dseq, vd, vk, (.slice da ks.length dc), vh]] w _
  have d0 := c0 wa ⟨Kept.refl _ _⟩
  have d17 := p17 wa ⟨Kept.refl _ _⟩
  have qn : IntKind.u32.wrap (ks.length : Int) = (ks.length : Int) := wrap_u32 (by omega) (by omega)
  have HNU := pnum_i 4 (by omega) (ks.length : Int) (show WL Y wa wa b L 24 from ⟨⟨Kept.refl _ _⟩, WA.out, hL⟩) (by omega) (by simp [numTop]; omega) (by simp)
  have HW : Hid (∀ w', Hold Y wa w' → StatesAt w' (.slice da ks.length dc) ks) := fun w' h => hv w' (KX.out w' h.k)
  have HR : Hid (∀ x ∈ ks, x.rs.length ≤ 1000000) := hr
  have YA : Hid (Y w.heap.size) := ya _ (by omega) (by omega)
  have hmx' : (ks.length : Int) ≤ 1000000 := by omega
  clear hw hL hv ok ta za ca pa hY ya hmx hn hr
  go_enter Tryz.func96, Tryz.ntmps96
  go_wp2_with fail
  rw [← hwa]
  clear hwa
  generalize w.heap.size + 1 = g2 at *
  generalize w.heap.size = g1 at *
  refine Calls.mono HNU ?_
  rintro e w1 ⟨rfl, h1⟩
  have REL : Hid (UpR Y wa b (L ++ numBytes 4 (ks.length : Int)) ks ks.length (.int .i64 0) w1) := ⟨0, by omega, by omega, rfl, ⟨h1.k, by simpa [stsB] using h1.wr, by have := h1.le; simp [stsB] at this ⊢; omega⟩⟩
  have f0 := c0 _ h1.k
  have f17 := p17 _ h1.k
  clear d0 d17 HNU h1 qn WA TA
  go_wp2_with fail
  clear f0 f17 p17
  go_loopg [15] ks.length (fun k i wx => UpR Y wa b (L ++ numBytes 4 (ks.length : Int)) ks k i wx)
  case atStart => exact REL.out
  case round =>
    clear REL
    obtain ⟨k, hk, hgk, rfl, hwl⟩ := hrel.out
    have WLr : Hid (WL Y wa wr b ((L ++ numBytes 4 (ks.length : Int)) ++ stsB (ks.take k)) 65535) := hwl
    have d0 := c0 _ hwl.k
    clear hwl hrel
    by_cases hlt : k < ks.length
    · have hlt' : (k : Int) < (ks.length : Int) := by omega
      have hk0 : (0 : Int) ≤ (k : Int) := by omega
      obtain ⟨x, hx⟩ : ∃ x, ks[k]? = some x := ⟨ks[k], by simp [hlt]⟩
      obtain ⟨ox, gR, off, cR, eR, hcell⟩ := StatesAt.one (HW.out wr WLr.out.k) hx
      obtain ⟨xa, xc, ex, -⟩ := ox.arg.form
      cases eR
      have e0 : wr.cell? ⟨gR, off + k * 9, none⟩ = some (.int .u16 x.h.age) := by exact hcell 0 _ rfl
      have e1 : wr.cell? ⟨gR, off + k * 9 + 1, none⟩ = some (.int .u8 x.h.opts) := by rw [Nat.add_assoc]; exact hcell 1 _ rfl
      have e2 : wr.cell? ⟨gR, off + k * 9 + 2, none⟩ = some (.int .u8 x.h.typ) := by rw [Nat.add_assoc]; exact hcell 2 _ rfl
      have e3 : wr.cell? ⟨gR, off + k * 9 + 3, none⟩ = some (.int .u32 x.h.id) := by rw [Nat.add_assoc]; exact hcell 3 _ rfl
      have e4 : wr.cell? ⟨gR, off + k * 9 + 4, none⟩ = some (.int .u32 x.h.adv) := by rw [Nat.add_assoc]; exact hcell 4 _ rfl
      have e5 : wr.cell? ⟨gR, off + k * 9 + 5, none⟩ = some (.int .i32 x.h.seq) := by rw [Nat.add_assoc]; exact hcell 5 _ rfl
      have e6 : wr.cell? ⟨gR, off + k * 9 + 6, none⟩ = some (.int .u16 x.h.sum) := by rw [Nat.add_assoc]; exact hcell 6 _ rfl
      have e7 : wr.cell? ⟨gR, off + k * 9 + 7, none⟩ = some (.int .u16 x.h.len) := by rw [Nat.add_assoc]; exact hcell 7 _ rfl
      have e8 : wr.cell? ⟨gR, off + k * 9 + 8, none⟩ = some (.slice xa x.rs.length xc) := by rw [← ex]; rw [Nat.add_assoc]; exact hcell 8 _ rfl
      have OX : Hid x.h.All := ox.all
      have AX : Hid (ArgAt wr (.slice xa x.rs.length xc) x.rs) := by rw [← ex]; exact ox.arg
      have RX : Hid (x.rs.length ≤ 1000000) := HR.out x (List.mem_of_getElem? hx)
      have hkw : wrap64 ((k : Int) + 1) = (k : Int) + 1 := by unfold wrap64; omega
      have NO : Hid (65535 < ((L ++ numBytes 4 (ks.length : Int)) ++ stsB (ks.take k)).length + (stB x).length → 65535 < L.length + (numBytes 4 (ks.length : Int) ++ stsB ks).length) := by
        intro h
        have := stsB_parts ks k x hx
        simp only [List.length_append] at h ⊢
        omega
      have HN : Hid ((L ++ numBytes 4 (ks.length : Int)) ++ stsB (ks.take (k + 1)) = ((L ++ numBytes 4 (ks.length : Int)) ++ stsB (ks.take k)) ++ stB x) := by show _ = _; rw [List.take_add_one, hx, show (some x).toList = [x] from rfl, stsB_snoc, List.append_assoc _ (stsB _)]
      clear hcell hx ox ex
      have t4 : Touch (fun _ => False) wr (wr.alloc (.cells #[.int .u16 x.h.age, .int .u8 x.h.opts, .int .u8 x.h.typ, .int .u32 x.h.id, .int .u32 x.h.adv, .int .i32 x.h.seq, .int .u16 x.h.sum, .int .u16 x.h.len, .slice xa x.rs.length xc] 95)) := (Touch.refl _ _).alloc _
      have k0 : (wr.alloc (.cells #[.int .u16 x.h.age, .int .u8 x.h.opts, .int .u8 x.h.typ, .int .u32 x.h.id, .int .u32 x.h.adv, .int .i32 x.h.seq, .int .u16 x.h.sum, .int .u16 x.h.len, .slice xa x.rs.length xc] 95)).cell? ⟨wr.heap.size, 0, none⟩ = some (.int .u16 x.h.age) := by simp [go_sem]
      have k1 : (wr.alloc (.cells #[.int .u16 x.h.age, .int .u8 x.h.opts, .int .u8 x.h.typ, .int .u32 x.h.id, .int .u32 x.h.adv, .int .i32 x.h.seq, .int .u16 x.h.sum, .int .u16 x.h.len, .slice xa x.rs.length xc] 95)).cell? ⟨wr.heap.size, 1, none⟩ = some (.int .u8 x.h.opts) := by simp [go_sem]
      have k2 : (wr.alloc (.cells #[.int .u16 x.h.age, .int .u8 x.h.opts, .int .u8 x.h.typ, .int .u32 x.h.id, .int .u32 x.h.adv, .int .i32 x.h.seq, .int .u16 x.h.sum, .int .u16 x.h.len, .slice xa x.rs.length xc] 95)).cell? ⟨wr.heap.size, 2, none⟩ = some (.int .u8 x.h.typ) := by simp [go_sem]
      have k3 : (wr.alloc (.cells #[.int .u16 x.h.age, .int .u8 x.h.opts, .int .u8 x.h.typ, .int .u32 x.h.id, .int .u32 x.h.adv, .int .i32 x.h.seq, .int .u16 x.h.sum, .int .u16 x.h.len, .slice xa x.rs.length xc] 95)).cell? ⟨wr.heap.size, 3, none⟩ = some (.int .u32 x.h.id) := by simp [go_sem]
      have k4 : (wr.alloc (.cells #[.int .u16 x.h.age, .int .u8 x.h.opts, .int .u8 x.h.typ, .int .u32 x.h.id, .int .u32 x.h.adv, .int .i32 x.h.seq, .int .u16 x.h.sum, .int .u16 x.h.len, .slice xa x.rs.length xc] 95)).cell? ⟨wr.heap.size, 4, none⟩ = some (.int .u32 x.h.adv) := by simp [go_sem]
      have k5 : (wr.alloc (.cells #[.int .u16 x.h.age, .int .u8 x.h.opts, .int .u8 x.h.typ, .int .u32 x.h.id, .int .u32 x.h.adv, .int .i32 x.h.seq, .int .u16 x.h.sum, .int .u16 x.h.len, .slice xa x.rs.length xc] 95)).cell? ⟨wr.heap.size, 5, none⟩ = some (.int .i32 x.h.seq) := by simp [go_sem]
      have k6 : (wr.alloc (.cells #[.int .u16 x.h.age, .int .u8 x.h.opts, .int .u8 x.h.typ, .int .u32 x.h.id, .int .u32 x.h.adv, .int .i32 x.h.seq, .int .u16 x.h.sum, .int .u16 x.h.len, .slice xa x.rs.length xc] 95)).cell? ⟨wr.heap.size, 6, none⟩ = some (.int .u16 x.h.sum) := by simp [go_sem]
      have k7 : (wr.alloc (.cells #[.int .u16 x.h.age, .int .u8 x.h.opts, .int .u8 x.h.typ, .int .u32 x.h.id, .int .u32 x.h.adv, .int .i32 x.h.seq, .int .u16 x.h.sum, .int .u16 x.h.len, .slice xa x.rs.length xc] 95)).cell? ⟨wr.heap.size, 7, none⟩ = some (.int .u16 x.h.len) := by simp [go_sem]
      have k8 : (wr.alloc (.cells #[.int .u16 x.h.age, .int .u8 x.h.opts, .int .u8 x.h.typ, .int .u32 x.h.id, .int .u32 x.h.adv, .int .i32 x.h.seq, .int .u16 x.h.sum, .int .u16 x.h.len, .slice xa x.rs.length xc] 95)).cell? ⟨wr.heap.size, 8, none⟩ = some (.slice xa x.rs.length xc) := by simp [go_sem]
      have z4 : (wr.alloc (.cells #[.int .u16 x.h.age, .int .u8 x.h.opts, .int .u8 x.h.typ, .int .u32 x.h.id, .int .u32 x.h.adv, .int .i32 x.h.seq, .int .u16 x.h.sum, .int .u16 x.h.len, .slice xa x.rs.length xc] 95)).heap.size = wr.heap.size + 1 := by simp
      go_upto_region 5 with fail
      generalize wr.alloc (.cells #[.int .u16 x.h.age, .int .u8 x.h.opts, .int .u8 x.h.typ, .int .u32 x.h.id, .int .u32 x.h.adv, .int .i32 x.h.seq, .int .u16 x.h.sum, .int .u16 x.h.len, .slice xa x.rs.length xc] 95) = w4 at *
      obtain ⟨Y5, hY5⟩ : ∃ Y5 : Nat → Prop, Y5 = fun k => Y k ∨ (wr.heap.size ≤ k ∧ k < w4.heap.size) := ⟨_, rfl⟩
      have y5 : Y5 wr.heap.size := by subst hY5; exact Or.inr (by omega)
      have Y5Y : ∀ k, Y k → Y5 k := by subst hY5; exact fun k hk => Or.inl hk
      have W4 : WL Y5 w4 w4.drew b ((L ++ numBytes 4 (ks.length : Int)) ++ stsB (ks.take k)) 65535 := ⟨⟨Kept.of ((Touch.refl _ _).drew)⟩, by subst hY5; exact (WLr.out.wr.more t4 (fun k hk => hk)).keep ((Touch.refl _ _).drew), WLr.out.le⟩
      have BK : Hid (∀ w', Hold Y5 w4 w' → Hold Y wa w') := fun w' h => ⟨WLr.out.k.k.trans ((Kept.of t4).trans (h.k.less (fun k _ hk => Y5Y k hk)))⟩
      have LS : Hid (∀ w' l, Wr Y5 w' b l 65535 → Wr Y w' b l 65535) := fun w' l h => h.less Y5Y
      have AD : Hid (ArgAt w4.drew (.slice xa x.rs.length xc) x.rs) := (AX.out.keep t4 (fun _ _ h => h)).keep ((Touch.refl _ _).drew) (fun _ _ h => h)
      have d1 := hold_cell (t4.cellN d0) (Y5Y _ YA.out)
      have h0 := hold_cell k0 y5
      have h1 := hold_cell k1 y5
      have h2 := hold_cell k2 y5
      have h3 := hold_cell k3 y5
      have h4 := hold_cell k4 y5
      have h5 := hold_cell k5 y5
      have h6 := hold_cell k6 y5
      have h7 := hold_cell k7 y5
      have h8 := hold_cell k8 y5
      have s4 := W4.k
      have HBY : Hid (Calls Tryz.prog 123 #[.agg #[.int .u16 x.h.age, .int .u8 x.h.opts, .int .u8 x.h.typ, .int .u32 x.h.id, .int .u32 x.h.adv, .int .i32 x.h.seq, .int .u16 x.h.sum, .int .u16 x.h.len, .slice xa x.rs.length xc]] w4.drew fun e w' => ∃ u, e = .returned u ∧ Buf w4.drew w' u (stB x)) := bytes_any x.h OX.out (.slice xa x.rs.length xc) x.rs w4.drew AD.out RX.out
      have hsb : Hid ((stB x).length ≤ 1099511627776) := by show _ ≤ _; unfold stB; rw [List.length_append, length_headB]; have := RX.out; omega
      clear hY5 y5 Y5Y t4 d0 k0 k1 k2 k3 k4 k5 k6 k7 k8 z4 WLr e0 e1 e2 e3 e4 e5 e6 e7 e8 AX
      generalize wr.heap.size = g5 at *
      generalize (L ++ numBytes 4 (ks.length : Int)) ++ stsB (ks.take k) = LL at *
      go_region_held2 (fun w' => Hold Y5 w4 w') (with_reducible assumption) (first
        | (go_at_call 123; refine Calls.mono HBY.out ?_; rintro e w5 ⟨u5, rfl, b5⟩; have W5 := W4.step b5.t; have s5 := W5.k; have a5 := b5.arg)
        | (go_at_call 91; refine Calls.mono (pwput_or _ (stB x) W5 (by omega) a5 hsb.out) ?_; rintro e w6 (⟨rfl, l6, s6, r6⟩ | ⟨rfl, l6, s6⟩); rotate_left; exact ⟨rfl, ⟨Or.inr ⟨rfl, NO.out l6, KX.out _ (BK.out _ s6).k⟩⟩⟩))
      have W7 : Hid (WL Y wa w6 b (LL ++ stB x) 65535) := ⟨BK.out _ s6, LS.out _ _ r6, by rw [List.length_append]; omega⟩
      clear s6 r6 l6 W5 s5 a5 b5 W4 s4 d1 NO HBY AD OX RX
      go_wp2_with fail
      go_roundg (ks.length - (k + 1))
      case measure => omega
      case rel => exact ⟨k + 1, by omega, by omega, by go_num, by rw [HN.out]; exact W7.out⟩
    · obtain rfl : k = ks.length := by omega
      have W5 : Hid (WL Y wa wr b (L ++ (numBytes 4 (ks.length : Int) ++ stsB ks)) 65535) := by have := WLr.out; rwa [List.take_length, List.append_assoc] at this
      clear WLr
      go_wp2_with fail
      go_end0
      exact ⟨Or.inl ⟨rfl, by have := W5.out.le; rwa [List.length_append] at this, W5.out.wr.less YX.out, KX.out _ W5.out.k.k⟩⟩
end Go.Proofs.YtjjgbcjgmjggnaaGreat

namespace Go.Proofs.YtjjgbcjgmjggnaaGreat
open Go.RowKit
set_option linter.unusedVariables false
set_option maxRecDepth 100000

set_option maxHeartbeats 1000000 in
theorem pwparts_any (b : Nat) (w : World) : Calls Tryz.prog 65 #[.agg #[.pointer (some ⟨b, 0, none⟩)]] w fun e w' => e = .returned (.agg #[.nilFunc, .func (.func 93) #[.agg #[.pointer (some ⟨b, 0, none⟩)]] #[], .func (.func 94) #[.agg #[.pointer (some ⟨b, 0, none⟩)]] #[], .func (.func 95) #[.agg #[.pointer (some ⟨b, 0, none⟩)]] #[], .func (.func 96) #[.agg #[.pointer (some ⟨b, 0, none⟩)]] #[], .func (.func 97) #[.agg #[.pointer (some ⟨b, 0, none⟩)]] #[]]) ∧ Touch (fun _ => False) w w' := by
  have hmf : ∀ (fn : Fn) (first cap : Array Value) (w : World), (Instr.makeFunc fn first cap).run Tryz.prog w = .ok (.func fn first cap) w := fun _ _ _ _ => rfl
  have hsf : ∀ (w : World) (a : Addr) (f : Fn) (x y : Array Value) (m : Mode), (store a (.func f x y) m).run Tryz.prog w = stored Tryz.prog w a (.func f x y) m := fun w a f x y m => run_store Tryz.prog w a _ m rfl
  have hsn : ∀ (w : World) (a : Addr) (m : Mode), (store a .nilFunc m).run Tryz.prog w = stored Tryz.prog w a .nilFunc m := fun w a m => run_store Tryz.prog w a _ m rfl
  go_enter Tryz.func65, Tryz.ntmps65
  go_wp2_with fail
  refine bodyPost_ret (v := .agg #[.nilFunc, .func (.func 93) #[.agg #[.pointer (some ⟨b, 0, none⟩)]] #[], .func (.func 94) #[.agg #[.pointer (some ⟨b, 0, none⟩)]] #[], .func (.func 95) #[.agg #[.pointer (some ⟨b, 0, none⟩)]] #[], .func (.func 96) #[.agg #[.pointer (some ⟨b, 0, none⟩)]] #[], .func (.func 97) #[.agg #[.pointer (some ⟨b, 0, none⟩)]] #[]]) (by simp [results, Tryz.results65, go_sem]) rfl ?_
  exact ⟨rfl, ((Touch.refl _ _).alloc _).alloc _⟩
/-- The function of each type. -/
theorem pwparts_at (b : Nat) (w : World) (t : Int) (f : Nat) (h : (t = 1 ∧ f = 93) ∨ (t = 2 ∧ f = 94) ∨ (t = 3 ∧ f = 95) ∨ (t = 4 ∧ f = 96) ∨ (t = 5 ∧ f = 97)) :
    (Instr.index 117 (.agg #[.nilFunc, .func (.func 93) #[.agg #[.pointer (some ⟨b, 0, none⟩)]] #[], .func (.func 94) #[.agg #[.pointer (some ⟨b, 0, none⟩)]] #[], .func (.func 95) #[.agg #[.pointer (some ⟨b, 0, none⟩)]] #[], .func (.func 96) #[.agg #[.pointer (some ⟨b, 0, none⟩)]] #[], .func (.func 97) #[.agg #[.pointer (some ⟨b, 0, none⟩)]] #[]]) (.int .u8 t)).run Tryz.prog w = .ok (.func (.func f) #[.agg #[.pointer (some ⟨b, 0, none⟩)]] #[]) w := by
  rcases h with ⟨rfl, rfl⟩ | ⟨rfl, rfl⟩ | ⟨rfl, rfl⟩ | ⟨rfl, rfl⟩ | ⟨rfl, rfl⟩ <;> kernel_rfl

set_option maxHeartbeats 1000000 in
theorem hasDD_any (m o f s : Int) (va : Option Addr) (n c : Nat) (w : World) : Calls Tryz.prog 120 #[.agg #[.int .u16 m, .int .u8 o, .int .u8 f, .int .u32 s, .slice va n c]] w fun e w' => e = .returned (.bool (decide (m ≠ 0 ∨ o ≠ 0 ∨ f ≠ 0 ∨ s ≠ 0 ∨ 0 < n))) ∧ Touch (fun _ => False) w w' := by
  have HK : Hid ((decide (m ≠ 0 ∨ o ≠ 0 ∨ f ≠ 0 ∨ s ≠ 0 ∨ 0 < n) = true) ↔ (m ≠ 0 ∨ o ≠ 0 ∨ f ≠ 0 ∨ s ≠ 0 ∨ 0 < n)) := by show _ ↔ _; exact decide_eq_true_iff
  generalize decide (m ≠ 0 ∨ o ≠ 0 ∨ f ≠ 0 ∨ s ≠ 0 ∨ 0 < n) = k at HK ⊢
  go_enter Tryz.func120, Tryz.ntmps120
  go_wp2
  all_goals go_ret
  all_goals refine ⟨ret_bool ?_, (Touch.refl _ _).alloc _⟩
  all_goals (rw [Bool.eq_iff_iff, HK.out]; simp_all <;> omega)
end Go.Proofs.YtjjgbcjgmjggnaaGreat

namespace Go.Proofs.YtjjgbcjgmjggnaaGreat
open Go.RowKit
set_option linter.unusedVariables false
set_option maxRecDepth 100000


set_option maxHeartbeats 1000000 in
theorem hasHello_any (m i o p d r q : Int) (va : Option Addr) (n c : Nat) (w : World) : Calls Tryz.prog 119 #[.agg #[.int .u32 m, .int .u16 i, .int .u8 o, .int .u8 p, .int .u32 d, .int .u32 r, .int .u32 q, .slice va n c]] w fun e w' => e = .returned (.bool (decide (i ≠ 0 ∨ d ≠ 0 ∨ r ≠ 0 ∨ q ≠ 0 ∨ 0 < n ∨ m ≠ 0 ∨ o ≠ 0 ∨ p ≠ 0))) ∧ Touch (fun _ => False) w w' := by
  have HK : Hid ((decide (i ≠ 0 ∨ d ≠ 0 ∨ r ≠ 0 ∨ q ≠ 0 ∨ 0 < n ∨ m ≠ 0 ∨ o ≠ 0 ∨ p ≠ 0) = true) ↔ (i ≠ 0 ∨ d ≠ 0 ∨ r ≠ 0 ∨ q ≠ 0 ∨ 0 < n ∨ m ≠ 0 ∨ o ≠ 0 ∨ p ≠ 0)) := by show _ ↔ _; exact decide_eq_true_iff
  generalize decide (i ≠ 0 ∨ d ≠ 0 ∨ r ≠ 0 ∨ q ≠ 0 ∨ 0 < n ∨ m ≠ 0 ∨ o ≠ 0 ∨ p ≠ 0) = k at HK ⊢
  go_enter Tryz.func119, Tryz.ntmps119
  go_wp2
  all_goals go_ret
  all_goals refine ⟨ret_bool ?_, (Touch.refl _ _).alloc _⟩
  all_goals (rw [Bool.eq_iff_iff, HK.out]; simp_all <;> omega)
end Go.Proofs.YtjjgbcjgmjggnaaGreat

namespace Go.Proofs.YtjjgbcjgmjggnaaGreat
set_option linter.unusedVariables false

/-- The i-th piece of k bytes. -/
def cutAt (k : Nat) (c : List Int) (i : Nat) : List Int := (c.drop (k * i)).take k
/-- All whole pieces, each read by f. -/
def cuts {α : Type} (k : Nat) (f : List Int → α) (c : List Int) : List α := (List.range (c.length / k)).map fun i => f (cutAt k c i)
theorem range_snoc {α : Type} (g : Nat → α) (j : Nat) : (List.range (j + 1)).map g = (List.range j).map g ++ [g j] := by rw [List.range_succ, List.map_append]; rfl
theorem length_flat {α : Type} (g : α → List Int) (k : Nat) (hg : ∀ x, (g x).length = k) (l : List α) : (l.flatMap g).length = k * l.length := by
  induction l with
  | nil => simp
  | cons x r ih => rw [List.flatMap_cons, List.length_append, ih, hg, List.length_cons, Nat.mul_succ]; omega
theorem cutAt_flat {α : Type} (g : α → List Int) (k : Nat) (hg : ∀ x, (g x).length = k) (l : List α) (i : Nat) (x : α) (hx : l[i]? = some x) : cutAt k (l.flatMap g) i = g x := by
  induction l generalizing i with
  | nil => simp at hx
  | cons y r ih =>
    unfold cutAt
    rw [List.flatMap_cons]
    cases i with
    | zero =>
      obtain rfl : y = x := by simpa using hx
      rw [Nat.mul_zero, List.drop_zero, List.take_append_of_le_length (by rw [hg]; omega), List.take_of_length_le (by rw [hg]; omega)]
    | succ i =>
      rw [List.drop_append, List.drop_eq_nil_of_le (by rw [hg, Nat.mul_succ]; omega), List.nil_append, hg, show k * (i + 1) - k = k * i by rw [Nat.mul_succ]; omega]
      exact ih i (by simpa using hx)
/-- What was laid piece by piece is read so. -/
theorem cuts_flat {α : Type} (g : α → List Int) (f : List Int → α) (k : Nat) (hk : 0 < k) (hg : ∀ x, (g x).length = k) (l : List α) (hf : ∀ x ∈ l, f (g x) = x) : cuts k f (l.flatMap g) = l := by
  unfold cuts
  rw [length_flat g k hg, Nat.mul_div_cancel_left _ hk]
  apply List.ext_getElem?
  intro i
  rw [List.getElem?_map]
  by_cases hi : i < l.length
  · obtain ⟨x, hx⟩ : ∃ x, l[i]? = some x := ⟨l[i], by simp [hi]⟩
    rw [List.getElem?_range hi, Option.map_some, cutAt_flat g k hg l i x hx, hf x (List.mem_of_getElem? hx), hx]
  · rw [List.getElem?_eq_none (by simp; omega), List.getElem?_eq_none (by omega)]
    rfl
theorem mem_cuts {α : Type} {k : Nat} {f : List Int → α} {c : List Int} {x : α} (h : x ∈ cuts k f c) : ∃ i, i < c.length / k ∧ x = f (cutAt k c i) := by
  unfold cuts at h
  obtain ⟨i, hi, rfl⟩ := List.mem_map.1 h
  exact ⟨i, by simpa using hi, rfl⟩
end Go.Proofs.YtjjgbcjgmjggnaaGreat

namespace Go.Proofs.YtjjgbcjgmjggnaaGreat
open Go.RowKit
set_option linter.unusedVariables false
set_option maxRecDepth 100000

set_option maxHeartbeats 1000000 in
theorem grow_any (n : Nat) (w : World) (hn : n ≤ 1099511627776) : Calls Tryz.prog 151 #[.slice none 0 0, .int .i64 (n : Int)] w fun e w' => ∃ v', e = .returned v' ∧ Buf w w' v' [] := by
  obtain ⟨i0, hi, hz0, hz1, hz2⟩ := info_parts Tryz.info5w
  by_cases h0 : n = 0
  · subst h0
    go_enter Tryz.func151, Tryz.ntmps151
    go_wp2
    go_ret
    exact ⟨_, rfl, Buf.nil (Touch.refl _ w)⟩
  · have h1 : ¬ ((n : Int) < 0) := by omega
    have h4 : (n : Int) > 0 := by omega
    have hold : (Builtin.firstCells i0.size 0 (.slice none 0 0)).run Tryz.prog w.drew = .ok ([] : List Value).toArray w.drew := by
      simp [Builtin.firstCells]
    have hrz := fun ty => Lib.run_append_grow_zeros (P := Tryz.prog) w 43 3 ty 5 i0 (.int .u8 0) .i64 .i64 Tryz.underlying43 Tryz.underlying3 hi hz0 none 0 0 [] hold n (by omega) (by omega) (by omega) (by omega) (by rw [hz2]; omega) (growslice_fits (by omega) (by rw [hz2]; omega))
    have hGn : n ≤ grownCap w n 0 5 := grownCap_ge w _ _ _
    have hGm : grownCap w n 0 5 ≤ maxLen := grownCap_le_maxLen w n 0 5 (by unfold maxLen; omega)
    simp only [Nat.zero_add] at hrz
    generalize grownCap w n 0 5 = G at hrz hGn hGm
    have hG63 : G ≤ 9223372036854775807 := by unfold maxLen at hGm; omega
    have HB : Hid (Buf w (w.drew.alloc (Obj.cells (([] : List Value).toArray ++ Builtin.zeroCells (Value.int IntKind.u8 0).cells n ++ Builtin.zeroCells (Value.int IntKind.u8 0).cells (G - n)) 5)) (.slice (some ⟨w.heap.size, 0, none⟩) 0 G) []) := by
      refine ⟨⟨rfl, Or.inr ⟨w.heap.size, G, _, rfl, Nat.le_refl _, heap_alloc_new w.drew _, Nat.zero_le _, hGm, ?_, by simp [bytesOf]⟩⟩, ((Touch.refl _ w).drew).alloc _⟩
      simp only [Array.size_append, size_zeroCells]
      simp [Value.cells]
      omega
    generalize hw : (w.drew.alloc (Obj.cells (([] : List Value).toArray ++ Builtin.zeroCells (Value.int IntKind.u8 0).cells n ++ Builtin.zeroCells (Value.int IntKind.u8 0).cells (G - n)) 5)) = wz at hrz HB
    clear hold hw hi hz0 hz1 hz2 hGm
    go_enter Tryz.func151, Tryz.ntmps151
    go_wp2_with (at_builtin; refine Lib.wpList_append_run _ rfl _ _ _ _ rfl _ _ rfl rfl _ _ (hrz _) ?_)
    all_goals (go_ret; exact ⟨_, rfl, HB.out⟩)

def CcA (n1 n2 : Nat) (s i : Value) : Prop := ∃ k : Nat, k ≤ 2 ∧ i = .int .i64 (k : Int) ∧ s = .int .i64 ((if k = 0 then 0 else if k = 1 then n1 else n1 + n2 : Nat) : Int)
def CcB (w0 : World) (r1 r2 : List Int) (p i : Value) (wr : World) : Prop := ∃ k : Nat, k ≤ 2 ∧ i = .int .i64 (k : Int) ∧ Buf w0 wr p (if k = 0 then [] else if k = 1 then r1 else r1 ++ r2)
set_option maxHeartbeats 1000000 in
theorem concat_any (gp : Nat) (v1 v2 : Value) (r1 r2 : List Int) (w : World) (c1 : w.cell? ⟨gp, 0, none⟩ = some v1) (c2 : w.cell? ⟨gp, 1, none⟩ = some v2) (h1 : ArgAt w v1 r1) (h2 : ArgAt w v2 r2) (hl1 : r1.length ≤ 1073741824) (hl2 : r2.length ≤ 1073741824) :
    Calls Tryz.prog 128 #[.slice (some ⟨gp, 0, none⟩) 2 2] w fun e w' => ∃ v', e = .returned v' ∧ Buf w w' v' (r1 ++ r2) := by
  obtain ⟨a1, k1, rfl, _⟩ := h1.form
  obtain ⟨a2, k2, rfl, _⟩ := h2.form
  have H1 : Hid (ArgAt w (.slice a1 r1.length k1) r1) := h1
  have H2 : Hid (ArgAt w (.slice a2 r2.length k2) r2) := h2
  clear h1 h2
  go_enter Tryz.func128, Tryz.ntmps128
  go_wp2_with fail
  go_loop [3, 11] (fun s i => CcA r1.length r2.length s i) (fun _ i => 2 - (intOf i).toNat)
  case atStart => exact ⟨0, by omega, rfl, rfl⟩
  case round =>
    obtain ⟨k, hk, rfl, rfl⟩ := hrel
    match k, hk with
    | 0, _ =>
      simp only [reduceIte]
      go_wp2_with fail
      go_round
      case rel => exact ⟨1, by omega, rfl, by simp⟩
      case measure => simp [intOf]
    | 1, _ =>
      simp only [reduceIte, Nat.reduceEqDiff]
      go_wp2_with fail
      go_round
      case rel => exact ⟨2, by omega, rfl, by simp⟩
      case measure => simp [intOf]
    | 2, _ =>
      simp only [reduceIte, Nat.reduceEqDiff]
      have HG := grow_any (r1.length + r2.length) w (by omega)
      go_wp2_with (first | refine HG.mono ?_; rintro e w1 ⟨p, rfl, hb⟩)
      have HB0 : Hid (CcB w r1 r2 p (.int .i64 ((0 : Nat) : Int)) w1) := ⟨0, by omega, rfl, hb⟩
      clear hb HG
      go_wp2_with fail
      go_loopw [6, 27] (fun p i wr => CcB w r1 r2 p i wr) (fun _ i _ => 2 - (intOf i).toNat)
      case atStart => exact HB0.out
      case round =>
        clear HB0
        obtain ⟨k, hk, rfl, hb⟩ := hrel
        have HT : Hid (Touch (fun _ => False) w wr) := hb.t
        match k, hk with
        | 0, _ =>
          simp only [reduceIte] at hb
          have d1 := HT.out.cellN c1
          go_wp2_with (at_builtin; refine app_arg rfl (.tmp 31) (.tmp 32) rfl w _ [] rfl hb _ r1 rfl (H1.out.keep HT.out (fun _ _ h => h)) (by simp; omega) ?_; intro v' w' hb')
          go_roundw
          case rel => exact ⟨1, by omega, rfl, hb'⟩
          case measure => simp [intOf]
        | 1, _ =>
          simp only [reduceIte, Nat.reduceEqDiff] at hb
          have d1 := HT.out.cellN c2
          go_wp2_with (at_builtin; refine app_arg rfl (.tmp 31) (.tmp 32) rfl w _ r1 rfl hb _ r2 rfl (H2.out.keep HT.out (fun _ _ h => h)) (by omega) ?_; intro v' w' hb')
          go_roundw
          case rel => exact ⟨2, by omega, rfl, hb'⟩
          case measure => simp [intOf]
        | 2, _ =>
          simp only [reduceIte, Nat.reduceEqDiff] at hb
          go_wp2_with fail
          go_ret
          exact ⟨_, rfl, hb⟩
        | n + 3, h => omega
    | n + 3, h => omega
end Go.Proofs.YtjjgbcjgmjggnaaGreat

namespace Go.Proofs.YtjjgbcjgmjggnaaGreat
open Go.RowKit
set_option linter.unusedVariables false
set_option maxRecDepth 100000

def FoldR (F : Int) (f : Value) : Prop := ∃ n : Int, f = .int .u32 n ∧ 0 ≤ n ∧ n < 4294967296 ∧ Hid (fold n = F)
theorem folded_any (h k : Int) (w : World) (h0 : 0 ≤ h) (k0 : 0 ≤ k) (hb : 256 * h + k < 4294967296) :
    Calls Tryz.prog 132 #[.agg #[.int .u32 h, .int .u32 k]] w fun e w' => e = .returned (.int .u16 (fold (256 * h + k))) ∧ Touch (fun _ => False) w w' := by
  obtain ⟨F, hF⟩ : ∃ F, fold (256 * h + k) = F := ⟨_, rfl⟩
  have HF : Hid (fold (256 * h + k) = F) := hF
  rw [hF]
  clear hF
  go_enter Tryz.func132, Tryz.ntmps132
  go_wp2
  go_loop [3] (fun f => FoldR F f) (fun f => (intOf f).toNat)
  case atStart => exact ⟨_, rfl, by omega, by omega, by show _ = _; rw [← HF.out]; congr 1; omega⟩
  case round =>
    obtain ⟨n, rfl, hn0, hn1, HN⟩ := hrel
    have e1 := and16 hn0 hn1
    by_cases hlt : 65535 < n
    · have HS : Hid (fold (n / 65536 + n % 65536) = F) := by show _ = _; rw [← HN.out]; exact fold_step hlt
      go_wp2
      go_round
      case rel => exact ⟨_, rfl, by omega, by omega, HS⟩
      case measure => simp [intOf]; omega
    · have HS : Hid (n = F) := by show _ = _; rw [← HN.out]; exact (fold_small hn0 (by omega)).symm
      go_wp2
      go_ret
      rw [← HS.out]
      exact ⟨rfl, (Touch.refl _ w).alloc _⟩

theorem lower_any (w0 : World) (b : Nat) (h k : Int) (w : World) (hc : Two w b h k) (hb0 : w0.heap.size ≤ b) (t : Touch (fun _ => False) w0 w)
    (h0 : 0 ≤ h) (k0 : 0 ≤ k) (hb : 256 * h + k < 4294967296) :
    Calls Tryz.prog 153 #[.pointer (some ⟨b, 0, none⟩)] w fun e w' => e = .returned (.tuple #[]) ∧ Two w' b (fold (256 * h + k) / 256) (fold (256 * h + k) % 256) ∧ Touch (fun _ => False) w0 w' := by
  have hF := fold_bound (256 * h + k)
  have HC := fun w => folded_any h k w h0 k0 hb
  revert hF HC
  generalize fold (256 * h + k) = F
  intro hF HC
  obtain ⟨hF0, hF1⟩ := hF
  have e8 := and8 hF0 (by omega)
  obtain ⟨c0, c1, f0, f1⟩ := hc
  go_enter Tryz.func153, Tryz.ntmps153
  go_wp2_with fail
  refine (HC _).mono ?_
  rintro e w1 ⟨rfl, t1⟩
  have hc : Two w1 b h k := Two.keep ⟨c0, c1, f0, f1⟩ t1
  obtain ⟨d0, d1, g0, g1⟩ := hc
  clear HC c0 c1 f0 f1
  go_wp2_with fail
  go_region
  go_wp2
  go_end0
  exact ⟨rfl, (((Two.mk d0 d1 g0 g1).set0 _).set1 _).drew, (((t.trans t1).new (p := ⟨b, 0, none⟩) hb0 _).new (p := ⟨b, 1, none⟩) hb0 _).drew⟩
end Go.Proofs.YtjjgbcjgmjggnaaGreat
