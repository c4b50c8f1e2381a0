/- Sign, every way. -/
import Derived.Test.YtjjgbcjgmjggnaaGreatDoorAuApi
import Derived.Lib.SlBytesConst
namespace Go.Proofs.YtjjgbcjgmjggnaaGreatDoor
open Go.RowKit Go.Shelf
set_option linter.unusedVariables false
set_option maxRecDepth 100000

theorem aclone_arg (v : Value) (l : List Int) (w : World) (h : ArgAt w v l) (hl : l.length ≤ 1099511627776) : Calls Tryz.prog 18 #[v] w fun e w' => ∃ u, e = .returned u ∧ Buf w w' u l := by
  rcases h with ⟨rfl, rfl⟩ | ⟨ad, c, rfl, h1, h2, h3⟩
  · refine (clone_nil w).mono ?_
    rintro e w' ⟨rfl, rfl⟩
    exact ⟨_, rfl, Buf.nil (Touch.refl _ _)⟩
  · refine (clone_some ad c l w h3 hl).mono ?_
    rintro e w' ⟨u, rfl, hown, t, _⟩
    exact ⟨u, rfl, ⟨hown, t⟩⟩
set_option maxHeartbeats 2000000 in
theorem asign_any (v vk : Value) (rs : List Int) (ks : List KE) (now seq : Int) (w : World) (hv : ArgAt w v rs) (hby : ∀ z ∈ rs, 0 ≤ z ∧ z < 256) (hn : rs.length ≤ 1000000) (hc : ChainAt w vk ks) (hl : ks.length ≤ 1000000) (hs : 0 ≤ seq ∧ seq < 4294967296) :
    Calls Tryz.prog 8 #[v, vk, .int .i64 now, .int .u32 seq] w fun e w' => ∃ u, e = .returned (.tuple #[u, .int .i64 (signE rs (pureL ks) now)]) ∧ Buf w w' u (signB rs (pureL ks) now seq) := by
  have HU := unsigned_any v rs w hv hby hn
  by_cases hU : unsE rs = 0
  · rw [hU] at HU
    have P : PLen rs := by
      refine pLenE_ok ?_
      unfold unsE at hU
      by_cases h : pLenE rs = 0
      · exact h
      · rw [if_pos h] at hU; exact hU
    have HCL : Hid (∀ w', Touch (fun _ => False) w w' → Calls Tryz.prog 18 #[v] w' fun e w'' => ∃ u, e = .returned u ∧ Buf w' w'' u rs) := fun w' t => aclone_arg v rs w' (hv.keep t (fun _ _ h => h)) (by omega)
    have HCH : Hid (∀ w', Touch (fun _ => False) w w' → Calls Tryz.prog 19 #[vk, .int .i64 now] w' fun e w'' => e = .returned (.int .i64 (chooseI (pureL ks) now)) ∧ Touch (fun _ => False) w' w'') := fun w' t => choose_any vk ks now w' (hc.keep t) hl
    have HCK : Hid (∀ w', Touch (fun _ => False) w w' → Calls Tryz.prog 20 #[vk] w' fun e w'' => e = .returned (.tuple #[.int .i64 (achE (pureL ks)), .int .i64 (achI (pureL ks))]) ∧ Touch (fun _ => False) w' w'') := fun w' t => achk_any vk ks w' (hc.keep t)
    have hch := bestI_bound (pureL ks) now (pureL ks).length
    have hE : signE rs (pureL ks) now = if ks.length = 0 then 0 else if achE (pureL ks) ≠ 0 ∨ chooseI (pureL ks) now < 0 then 26 else 0 := by unfold signE; rw [if_neg (fun h => h hU), List.length_map]
    by_cases h0 : ks.length = 0
    · have hks : ks = [] := List.eq_nil_of_length_eq_zero h0
      subst hks
      have e1 : signE rs (pureL []) now = 0 := by rw [hE]; rfl
      have e2 : signB rs (pureL []) now seq = rs := by unfold signB; rw [if_neg (fun h => h e1)]; rfl
      rw [e1, e2]
      obtain ⟨va, vc, rfl, -⟩ := hv.form
      obtain ⟨ka, kc, rfl, -⟩ := ValsAt.form hc.vals
      clear hv hby hn hc hl hU P HCH HCK hch hE e1 e2 h0
      go_enter Tryz.func8, Tryz.ntmps8
      go_wp2_with fail
      refine Calls.mono HU ?_
      rintro e w1 ⟨rfl, t1⟩
      have T1 : Hid (Touch (fun _ => False) w w1) := t1
      clear t1
      go_wp2_with fail
      refine Calls.mono (HCL.out w1 T1.out) ?_
      rintro e w2 ⟨u, rfl, b2⟩
      have B2 : Hid (Buf w w2 u rs) := b2.back T1.out
      obtain ⟨ua, uc, rfl⟩ := b2.form
      clear b2
      go_wp2_with fail
      go_ret2
      exact ⟨_, rfl, B2.out⟩
    have h0' : ¬ ((ks.length : Int) = 0) := by omega
    rw [if_neg h0] at hE
    by_cases hbad : achE (pureL ks) ≠ 0 ∨ chooseI (pureL ks) now < 0
    · have e1 : signE rs (pureL ks) now = 26 := by rw [hE, if_pos hbad]
      have e2 : signB rs (pureL ks) now seq = [] := by unfold signB; rw [if_pos (by rw [e1]; omega)]
      rw [e1, e2]
      obtain ⟨va, vc, rfl, -⟩ := hv.form
      obtain ⟨ka, kc, rfl, -⟩ := ValsAt.form hc.vals
      generalize achE (pureL ks) = CE at *
      generalize achI (pureL ks) = CI at *
      generalize chooseI (pureL ks) now = CH at *
      clear hv hby hn hc hl hU P hch hE e1 e2 h0 HCL
      have fin : ∀ w', Touch (fun _ => False) w w' → ∃ u, (Ending.returned (.tuple #[.slice none 0 0, .int .i64 26])) = .returned (.tuple #[u, .int .i64 26]) ∧ Buf w w' u [] := fun w' t => ⟨_, rfl, Buf.nil t⟩
      by_cases hce : CE = 0
      · subst hce
        have hch : CH < 0 := by rcases hbad with h | h; exact absurd rfl h; exact h
        clear hbad
        go_enter Tryz.func8, Tryz.ntmps8
        go_wp2_with fail
        refine Calls.mono HU ?_
        rintro e w1 ⟨rfl, t1⟩
        have T1 : Hid (Touch (fun _ => False) w w1) := t1
        clear t1
        go_wp2_with fail
        refine Calls.mono (HCH.out w1 T1.out) ?_
        rintro e w2 ⟨rfl, t2⟩
        have T2 : Hid (Touch (fun _ => False) w w2) := T1.out.trans t2
        clear t2 T1
        go_wp2_with fail
        refine Calls.mono (HCK.out w2 T2.out) ?_
        rintro e w3 ⟨rfl, t3⟩
        have T3 : Hid (Touch (fun _ => False) w w3) := T2.out.trans t3
        clear t3 T2
        go_wp2_with fail
        go_ret2
        exact fin _ T3.out
      · clear hbad
        go_enter Tryz.func8, Tryz.ntmps8
        go_wp2_with fail
        refine Calls.mono HU ?_
        rintro e w1 ⟨rfl, t1⟩
        have T1 : Hid (Touch (fun _ => False) w w1) := t1
        clear t1
        go_wp2_with fail
        refine Calls.mono (HCH.out w1 T1.out) ?_
        rintro e w2 ⟨rfl, t2⟩
        have T2 : Hid (Touch (fun _ => False) w w2) := T1.out.trans t2
        clear t2 T1
        go_wp2_with fail
        refine Calls.mono (HCK.out w2 T2.out) ?_
        rintro e w3 ⟨rfl, t3⟩
        have T3 : Hid (Touch (fun _ => False) w w3) := T2.out.trans t3
        clear t3 T2
        go_wp2_with fail
        go_ret2
        exact fin _ T3.out
    · have hce : achE (pureL ks) = 0 := by
        by_cases h : achE (pureL ks) = 0
        · exact h
        · exact absurd (Or.inl h) hbad
      have hcn : ¬ chooseI (pureL ks) now < 0 := fun h => hbad (Or.inr h)
      have hci : achI (pureL ks) = 0 := by
        have := chk_ok hce
        exact (chk_good this.1 this.2).2
      have e1 : signE rs (pureL ks) now = 0 := by rw [hE, if_neg hbad]
      rw [show bestI (pureL ks) now (pureL ks).length = chooseI (pureL ks) now from rfl, List.length_map] at hch
      obtain ⟨i, hi⟩ : ∃ i : Nat, chooseI (pureL ks) now = (i : Int) := ⟨(chooseI (pureL ks) now).toNat, by omega⟩
      have hil : i < ks.length := by omega
      obtain ⟨x, hx⟩ : ∃ x, ks[i]? = some x := ⟨ks[i], List.getElem?_eq_getElem hil⟩
      have e2 : signB rs (pureL ks) now seq = signW rs x.p seq := by unfold signB; rw [if_neg (fun h => h e1), hi, Int.toNat_natCast, List.getElem?_map, hx]; rfl
      have hsec := chain_sec hce x (List.mem_of_getElem? hx)
      have HWP : Hid (∀ w', Touch (fun _ => False) w w' → Calls Tryz.prog 21 #[v, x.agg] w' fun e w'' => ∃ u, e = .returned u ∧ Buf w' w'' u (signPl rs x.p)) := fun w' t => withPassword_any v rs x w' ((hc.keep t).ok x (List.mem_of_getElem? hx)) hsec (hv.keep t (fun _ _ h => h)) hby P.l hn
      have HWD : Hid (∀ w', Touch (fun _ => False) w w' → Calls Tryz.prog 22 #[v, x.agg, .int .u32 seq] w' fun e w'' => ∃ u, e = .returned u ∧ Buf w' w'' u (signDg rs x.p seq)) := fun w' t => withDigest_any v rs x seq w' ((hc.keep t).ok x (List.mem_of_getElem? hx)) (hv.keep t (fun _ _ h => h)) hby P.l hn hs
      have HV' : Hid (∀ w', Touch (fun _ => False) w w' → ChainAt w' vk ks) := fun w' t => hc.keep t
      have HSW : Hid (signW rs x.p seq = if x.p.kind = 1 then signPl rs x.p else signDg rs x.p seq) := rfl
      rw [e1, e2]
      rw [hce, hci] at HCK
      rw [hi] at HCH
      obtain ⟨va, vc, rfl, -⟩ := hv.form
      obtain ⟨ka, kc, rfl, -⟩ := ValsAt.form hc.vals
      generalize signW rs x.p seq = SW at *
      generalize signPl rs x.p = SP at *
      generalize signDg rs x.p seq = SD at *
      have hi0 : ¬ ((i : Int) < 0) := by omega
      have hi1 : (0 : Int) ≤ (i : Int) := by omega
      have hi2 : (i : Int) < (ks.length : Int) := by omega
      clear hv hby hn hc hl hU P hch hE e1 e2 h0 HCL hce hcn hci hi hbad hsec
      go_enter Tryz.func8, Tryz.ntmps8
      go_wp2_with fail
      refine Calls.mono HU ?_
      rintro e w1 ⟨rfl, t1⟩
      have T1 : Hid (Touch (fun _ => False) w w1) := t1
      clear t1
      go_wp2_with fail
      refine Calls.mono (HCH.out w1 T1.out) ?_
      rintro e w2 ⟨rfl, t2⟩
      have T2 : Hid (Touch (fun _ => False) w w2) := T1.out.trans t2
      clear t2 T1
      go_wp2_with fail
      refine Calls.mono (HCK.out w2 T2.out) ?_
      rintro e w3 ⟨rfl, t3⟩
      have T3 : Hid (Touch (fun _ => False) w w3) := T2.out.trans t3
      clear t3 T2
      obtain ⟨-, gR, off, cR, eR, hcell⟩ := ChainAt.one (HV'.out w3 T3.out) hx
      cases eR
      have e0 : w3.cell? ⟨gR, off + i * 7, none⟩ = some (.int .u8 x.p.id) := by exact hcell 0 _ rfl
      have e1 : w3.cell? ⟨gR, off + i * 7 + 1, none⟩ = some (.int .u16 x.p.kind) := by rw [Nat.add_assoc]; exact hcell 1 _ rfl
      have e2 : w3.cell? ⟨gR, off + i * 7 + 2, none⟩ = some (.slice x.a x.p.sec.length x.c) := by rw [Nat.add_assoc]; exact hcell 2 _ rfl
      have e3 : w3.cell? ⟨gR, off + i * 7 + 3, none⟩ = some (.int .i64 x.p.sf) := by rw [Nat.add_assoc]; exact hcell 3 _ rfl
      have e4 : w3.cell? ⟨gR, off + i * 7 + 4, none⟩ = some (.int .i64 x.p.su) := by rw [Nat.add_assoc]; exact hcell 4 _ rfl
      have e5 : w3.cell? ⟨gR, off + i * 7 + 5, none⟩ = some (.int .i64 x.p.tf) := by rw [Nat.add_assoc]; exact hcell 5 _ rfl
      have e6 : w3.cell? ⟨gR, off + i * 7 + 6, none⟩ = some (.int .i64 x.p.tu) := by rw [Nat.add_assoc]; exact hcell 6 _ rfl
      clear hcell hx HV' HCH HCK HU
      by_cases hkd : x.p.kind = 1
      · rw [if_pos hkd] at HSW
        have hsw := HSW.out
        subst hsw
        have hkb : (x.p.kind == 1) = true := by simpa using hkd
        clear hkd
        go_wp2_with fail
        refine Calls.mono (HWP.out w3 T3.out) ?_
        rintro e w4 ⟨u, rfl, b4⟩
        have B4 : Hid (Buf w w4 u SW) := b4.back T3.out
        obtain ⟨ua, uc, rfl⟩ := b4.form
        clear b4
        go_wp2_with fail
        go_ret2
        exact ⟨_, rfl, B4.out⟩
      · rw [if_neg hkd] at HSW
        have hsw := HSW.out
        subst hsw
        go_wp2_with fail
        refine Calls.mono (HWD.out w3 T3.out) ?_
        rintro e w4 ⟨u, rfl, b4⟩
        have B4 : Hid (Buf w w4 u SW) := b4.back T3.out
        obtain ⟨ua, uc, rfl⟩ := b4.form
        clear b4
        go_wp2_with fail
        go_ret2
        exact ⟨_, rfl, B4.out⟩
  · have e1 : signE rs (pureL ks) now = unsE rs := by unfold signE; rw [if_pos hU]
    have e2 : signB rs (pureL ks) now seq = [] := by unfold signB; rw [if_pos (by rw [e1]; exact hU)]
    rw [e1, e2]
    obtain ⟨va, vc, rfl, -⟩ := hv.form
    obtain ⟨ka, kc, rfl, -⟩ := ValsAt.form hc.vals
    generalize unsE rs = UE at *
    clear hv hby hn hc hl e1 e2
    go_enter Tryz.func8, Tryz.ntmps8
    go_wp2_with fail
    refine Calls.mono HU ?_
    rintro e w1 ⟨rfl, t1⟩
    go_wp2_with fail
    go_ret2
    exact ⟨_, rfl, Buf.nil t1⟩
end Go.Proofs.YtjjgbcjgmjggnaaGreatDoor

namespace Go.Proofs.YtjjgbcjgmjggnaaGreatDoor
open Go.RowKit Go.Shelf
set_option linter.unusedVariables false
set_option maxRecDepth 100000

def ackB : List Int := [2, 5, 0, 24, 0, 0, 0, 1, 0, 0, 0, 0, 253, 225, 0, 0, 0, 0, 0, 0, 0, 0, 0, 0]
def ackS : List Int := [2, 5, 0, 24, 0, 0, 0, 1, 0, 0, 0, 0, 253, 224, 0, 1, 97, 98, 0, 0, 0, 0, 0, 0]
def keyL : AKP := ⟨7, 1, [97, 98], 0, 99, 0, 99⟩
theorem lives_sign : signE ackB [keyL] 5 = 0 ∧ signB ackB [keyL] 5 0 = ackS := by decide +kernel
theorem lives_open : openE ackS [keyL] 5 = 0 ∧ openN ackS [keyL] 5 = 24 ∧ openE ackS [keyL] 100 = 26 := by decide +kernel
theorem keyL_ok : keyL.Ok := ⟨by decide, by decide, by decide, by decide, by decide, by decide, by decide⟩
theorem au_lit (w : World) (l : List Int) (C : Array Value) (hC : C.toList = bytesOf l) (hm : l.length ≤ 1000) : ArgAt (w.alloc (.cells C 5)) (.slice (some ⟨w.heap.size, 0, none⟩) l.length l.length) l :=
  Or.inr ⟨⟨w.heap.size, 0, none⟩, l.length, rfl, Nat.le_refl _, by unfold maxLen; omega, src_new w C 5 0 l (by simpa using hC)⟩
set_option maxHeartbeats 1000000 in
theorem plainAck_any (w : World) : Calls Tryz.prog 15 #[] w fun e w' => ∃ a c, e = .returned (.slice a 24 c) ∧ ArgAt w' (.slice a 24 c) ackB ∧ Touch (fun _ => False) w w' := by
  go_enter Tryz.func15, Tryz.ntmps15
  go_wp2
  go_ret
  exact ⟨_, _, rfl, au_lit w ackB _ rfl (by decide), (Touch.refl _ _).alloc _⟩
theorem lit_ab (w : World) : ArgAt (w.alloc (.cells #[.int .u8 97, .int .u8 98] 5 (2, 3))) (.slice (some ⟨w.heap.size, 0, none⟩) 2 2) [97, 98] := by
  refine Or.inr ⟨⟨w.heap.size, 0, none⟩, 2, rfl, Nat.le_refl _, by simp [maxLen], fun j u hj => ?_⟩
  rw [add_plain, cell_of_row _ w.heap.size (0 + j) #[.int .u8 97, .int .u8 98] 5 (2, 3) (by show (w.heap.push _)[w.heap.size]? = _; simp), Nat.zero_add]
  have e : (#[.int .u8 97, .int .u8 98] : Array Value)[j]? = (bytesOf [97, 98])[j]? := by
    rw [show (#[.int .u8 97, .int .u8 98] : Array Value) = (bytesOf [97, 98]).toArray from rfl, List.getElem?_toArray]
  rw [e]
  exact hj
theorem livesC (w : World) : ChainAt ((w.alloc (.cells #[.int .u8 97, .int .u8 98] 5 (2, 3))).alloc (.cells #[.int .u8 7, .int .u16 1, .slice (some ⟨w.heap.size, 0, none⟩) 2 2, .int .i64 0, .int .i64 99, .int .i64 0, .int .i64 99] 61)) (.slice (some ⟨w.heap.size + 1, 0, none⟩) 1 1) [⟨keyL, some ⟨w.heap.size, 0, none⟩, 2⟩] := by
  refine ⟨⟨rfl, Or.inr ⟨⟨w.heap.size + 1, 0, none⟩, 1, rfl, Nat.le_refl _, by simp [maxLen], fun j u hj => ?_⟩⟩, fun x hx => ?_⟩
  · have r := row_new (w.alloc (.cells #[.int .u8 97, .int .u8 98] 5 (2, 3))) 61 #[.int .u8 7, .int .u16 1, .slice (some ⟨w.heap.size, 0, none⟩) 2 2, .int .i64 0, .int .i64 99, .int .i64 0, .int .i64 99]
    rw [World.size_alloc] at r
    rw [add_plain, Nat.zero_add, r.cell j]
    exact hj
  · simp at hx
    subst hx
    exact ⟨keyL_ok, (lit_ab w).keep ((Touch.refl _ _).alloc _) (fun _ _ h => h)⟩
theorem pureL_one (k : AKP) (a : Option Addr) (c : Nat) : pureL [⟨k, a, c⟩] = [k] := rfl
set_option maxHeartbeats 2000000 in
theorem lives8 (w : World) : Calls Tryz.prog 5 #[] w fun e w' => e = .returned (.bool true) ∧ Touch (fun _ => False) w w' := by
  have hS : Hid (∀ w' v vk ka, Touch (fun _ => False) w w' → ArgAt w' v ackB → ChainAt w' vk [⟨keyL, ka, 2⟩] → Calls Tryz.prog 8 #[v, vk, .int .i64 5, .int .u32 0] w' fun e w'' => ∃ u, e = .returned (.tuple #[u, .int .i64 0]) ∧ Buf w' w'' u ackS) := fun w' v vk ka t hv hc => by
    have := asign_any v vk ackB [⟨keyL, ka, 2⟩] 5 0 w' hv (by decide) (by decide) hc (by simp) (by omega)
    rw [pureL_one, lives_sign.1, lives_sign.2] at this
    exact this
  have hO : Hid (∀ w' v vk ka, ArgAt w' v ackS → ChainAt w' vk [⟨keyL, ka, 2⟩] → Calls Tryz.prog 16 #[v, vk, .int .i64 5] w' fun e w'' => ∃ s, e = .returned (.tuple #[.int .u32 s, .int .i64 24, .int .i64 0]) ∧ Touch (fun _ => False) w' w'') := fun w' v vk ka hv hc => by
    have := aopen_any v vk ackS [⟨keyL, ka, 2⟩] 5 w' hv (by decide) (by decide) hc (by simp)
    rw [pureL_one, lives_open.1, lives_open.2.1] at this
    exact this.mono fun e w'' h => ⟨_, h⟩
  have hP : Hid (∀ w' v vk ka, ArgAt w' v ackS → ChainAt w' vk [⟨keyL, ka, 2⟩] → Calls Tryz.prog 16 #[v, vk, .int .i64 100] w' fun e w'' => ∃ s n, e = .returned (.tuple #[.int .u32 s, .int .i64 n, .int .i64 26]) ∧ Touch (fun _ => False) w' w'') := fun w' v vk ka hv hc => by
    have := aopen_any v vk ackS [⟨keyL, ka, 2⟩] 100 w' hv (by decide) (by decide) hc (by simp)
    rw [pureL_one, lives_open.2.2] at this
    exact this.mono fun e w'' h => ⟨_, _, h⟩
  have kc := fun (w : World) (C : Array Value) (n c : Nat) => Lib.run_convert_bytes_const (P := Tryz.prog) w 22 5 C n c Tryz.underlying22 Tryz.underlying5
  go_enter Tryz.func5, Tryz.ntmps5
  go_wp2_with fail
  have C0 := livesC w
  have T0 : Hid (Touch (fun _ => False) w ((w.alloc (.cells #[.int .u8 97, .int .u8 98] 5 (2, 3))).alloc (.cells #[.int .u8 7, .int .u16 1, .slice (some ⟨w.heap.size, 0, none⟩) 2 2, .int .i64 0, .int .i64 99, .int .i64 0, .int .i64 99] 61))) := ((Touch.refl _ w).alloc _).alloc _
  generalize (w.alloc (.cells #[.int .u8 97, .int .u8 98] 5 (2, 3))).alloc (.cells #[.int .u8 7, .int .u16 1, .slice (some ⟨w.heap.size, 0, none⟩) 2 2, .int .i64 0, .int .i64 99, .int .i64 0, .int .i64 99] 61) = wa at C0 T0 ⊢
  have HC : Hid (∀ w', Touch (fun _ => False) wa w' → ChainAt w' (.slice (some ⟨w.heap.size + 1, 0, none⟩) 1 1) [⟨keyL, some ⟨w.heap.size, 0, none⟩, 2⟩]) := fun w' t => C0.keep t
  clear C0
  refine Calls.mono (plainAck_any wa) ?_
  rintro e w1 ⟨pa, pc, rfl, a1, t1⟩
  have A1 : Hid (ArgAt w1 (.slice pa 24 pc) ackB) := a1
  have T1 : Hid (Touch (fun _ => False) wa w1) := t1
  clear a1 t1
  go_wp2_with fail
  refine Calls.mono (hS.out w1 _ _ _ (T0.out.trans T1.out) A1.out (HC.out w1 T1.out)) ?_
  rintro e w2 ⟨u, rfl, b2⟩
  have T2 : Hid (Touch (fun _ => False) wa w2) := T1.out.trans b2.t
  have AU : Hid (∀ w', Touch (fun _ => False) w2 w' → ArgAt w' u ackS) := fun w' t => (b2.keep t).arg
  obtain ⟨g2, o2, c2, eu, hg⟩ : ∃ g o c, u = .slice (some ⟨g, o, none⟩) 24 c ∧ ∀ j v, (bytesOf ackS)[j]? = some v → w2.cell? ⟨g, o + j, none⟩ = some v := by
    rcases b2.row with ⟨_, h⟩ | ⟨g, o, c, e, _, _, h⟩
    · cases h
    · exact ⟨g, o, c, e, h⟩
  subst eu
  have HG15 : Hid (∀ w', Touch (fun _ => False) w2 w' → w'.cell? ⟨g2, o2 + 15, none⟩ = some (.int .u8 1)) := fun w' t => t.cellN (hg 15 _ rfl)
  have HG16 : Hid (∀ w', Touch (fun _ => False) w2 w' → w'.cell? ⟨g2, o2 + 16, none⟩ = some (.int .u8 97)) := fun w' t => t.cellN (hg 16 _ rfl)
  clear b2 hg A1 T1
  go_wp2_with fail
  refine Calls.mono (hO.out w2 _ _ _ (AU.out w2 (Touch.refl _ _)) (HC.out w2 T2.out)) ?_
  rintro e w3 ⟨s3, rfl, t3⟩
  have T3 : Hid (Touch (fun _ => False) w2 w3) := t3
  clear t3
  go_wp2_with fail
  refine Calls.mono (hP.out w3 _ _ _ (AU.out w3 T3.out) (HC.out w3 (T2.out.trans T3.out))) ?_
  rintro e w4 ⟨s4, n4, rfl, t4⟩
  have T4 : Hid (Touch (fun _ => False) w2 w4) := T3.out.trans t4
  have c15 := HG15.out w4 T4.out
  have c16 := HG16.out w4 T4.out
  clear t4 T3
  go_wp2_with fail
  go_ret
  exact ⟨rfl, T0.out.trans (T2.out.trans T4.out)⟩
end Go.Proofs.YtjjgbcjgmjggnaaGreatDoor
