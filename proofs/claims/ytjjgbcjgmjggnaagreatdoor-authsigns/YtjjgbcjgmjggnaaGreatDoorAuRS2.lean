/- What is laid with a password, with a digest; whether a digest is right. -/
import Derived.Test.YtjjgbcjgmjggnaaGreatDoorAuDg
import Derived.Test.YtjjgbcjgmjggnaaGreatDoorHeadV
import Derived.Test.YtjjgbcjgmjggnaaGreatDoorRefPk
import Derived.Test.YtjjgbcjgmjggnaaGreatDoorAuR8
import Derived.Test.YtjjgbcjgmjggnaaGreatDoorAuR8b
import Derived.Test.YtjjgbcjgmjggnaaGreatDoorAuR8c
namespace Go.Proofs.YtjjgbcjgmjggnaaGreatDoor
open Go.RowKit
set_option linter.unusedVariables false
set_option maxRecDepth 100000

theorem length_keyedB (s b : List Int) : (keyedB s b).length = 16 := by unfold keyedB; rw [length_natB]; exact length_outN _
theorem keyedB_byte (s b : List Int) : ∀ z ∈ keyedB s b, 0 ≤ z ∧ z < 256 := by
  intro z hz
  unfold keyedB at hz
  simp only [natB, List.mem_map] at hz
  obtain ⟨n, hn, rfl⟩ := hz
  have := outN_byte _ n hn
  omega
theorem keyed_b (vk v : Value) (ks ns : List Int) (w : World) (hk : ArgAt w vk ks) (hv : ArgAt w v ns) (hbk : ∀ z ∈ ks, 0 ≤ z ∧ z < 256) (hby : ∀ z ∈ ns, 0 ≤ z ∧ z < 256) (hl : ns.length ≤ 1073741824) :
    Calls Tryz.prog 65 #[vk, v] w fun e w' => e = .returned (.agg (bytesOf (keyedB ks ns)).toArray) ∧ Touch (fun _ => False) w w' :=
  keyed_any vk v (toN ks) (toN ns) w (by rw [natB_toN hbk]; exact hk) (by rw [natB_toN hby]; exact hv) (toN_byte hbk) (toN_byte hby) (by rw [length_toN]; exact hl)
set_option maxHeartbeats 1000000 in
theorem isDigest_any (vd vb : Value) (ds bs : List Int) (x : KE) (w : World) (ok : x.Ok w) (hd : ArgAt w vd ds) (hb : ArgAt w vb bs) (hbd : ∀ z ∈ ds, 0 ≤ z ∧ z < 256) (hby : ∀ z ∈ bs, 0 ≤ z ∧ z < 256) (hl : bs.length ≤ 1073741824) :
    Calls Tryz.prog 107 #[vd, x.agg, vb] w fun e w' => e = .returned (.bool (decide (ds = keyedB x.p.sec bs))) ∧ Touch (fun _ => False) w w' := by
  have HKY : Hid (∀ w', Touch (fun _ => False) w w' → Calls Tryz.prog 65 #[x.sv, vb] w' fun e w'' => e = .returned (.agg (bytesOf (keyedB x.p.sec bs)).toArray) ∧ Touch (fun _ => False) w' w'') := fun w' t => keyed_b _ _ _ _ w' (ok.arg.keep t (fun _ _ h => h)) (hb.keep t (fun _ _ h => h)) ok.all.sec hby hl
  have HSM : Hid (∀ w' vy, Touch (fun _ => False) w w' → ArgAt w' vy (keyedB x.p.sec bs) → Calls Tryz.prog 129 #[vd, vy] w' fun e w'' => e = .returned (.bool (decide (ds = keyedB x.p.sec bs))) ∧ w' = w'') := fun w' vy t hy => same_any vd vy ds _ w' (hd.keep t (fun _ _ h => h)) hy hbd (keyedB_byte _ _)
  have hOl' : (bytesOf (keyedB x.p.sec bs)).length = 16 := by rw [length_bytesOf, length_keyedB]
  have hO1 := oneCell_bytesOf (keyedB x.p.sec bs)
  have HKL : Hid ((keyedB x.p.sec bs).length = 16) := length_keyedB _ _
  obtain ⟨va, vc, rfl, -⟩ := hd.form
  obtain ⟨ba, bc, rfl, -⟩ := hb.form
  generalize decide (ds = keyedB x.p.sec bs) = DD at *
  generalize keyedB x.p.sec bs = KK at *
  generalize hOO : bytesOf KK = O at HKY hOl' hO1
  dsimp only [KE.sv] at HKY
  clear ok hd hb hbd hby hl
  go_enter Tryz.func107, Tryz.ntmps107
  go_wp2_with fail
  have k0 := kbox_new w x.p.id x.p.kind x.a x.p.sec.length x.c x.p.sf x.p.su x.p.tf x.p.tu
  have t0 : Hid (Touch (fun _ => False) w (w.alloc (.cells #[.int .u8 x.p.id, .int .u16 x.p.kind, .slice x.a x.p.sec.length x.c, .int .i64 x.p.sf, .int .i64 x.p.su, .int .i64 x.p.tf, .int .i64 x.p.tu] 61))) := (Touch.refl _ w).alloc _
  generalize w.alloc (.cells #[.int .u8 x.p.id, .int .u16 x.p.kind, .slice x.a x.p.sec.length x.c, .int .i64 x.p.sf, .int .i64 x.p.su, .int .i64 x.p.tf, .int .i64 x.p.tu] 61) = wa at k0 t0 ⊢
  have c2 := k0.c2
  go_wp2_with fail
  refine Calls.mono (HKY.out wa t0.out) ?_
  rintro e w1 ⟨rfl, t1⟩
  have T1 : Hid (Touch (fun _ => False) w w1) := t0.out.trans t1
  clear t1 t0 k0 c2
  go_wp2_with (first | refine wpList_store_row rfl 95 (.tmp 7) (.tmp 11) rfl w1.heap.size O.toArray rfl rfl 95 _ (row_new w1 95 _) (by rw [Tryz.info16, List.size_toArray, hOl']) (by simp [hOl']) (all_oneCell hO1) ?_)
  have R2 := (row_new w1 95 #[.int .u8 0, .int .u8 0, .int .u8 0, .int .u8 0, .int .u8 0, .int .u8 0, .int .u8 0, .int .u8 0, .int .u8 0, .int .u8 0, .int .u8 0, .int .u8 0, .int .u8 0, .int .u8 0, .int .u8 0, .int .u8 0]).setRow O.toArray
  have T2 : Hid (Touch (fun _ => False) w ((w1.alloc (.cells #[.int .u8 0, .int .u8 0, .int .u8 0, .int .u8 0, .int .u8 0, .int .u8 0, .int .u8 0, .int .u8 0, .int .u8 0, .int .u8 0, .int .u8 0, .int .u8 0, .int .u8 0, .int .u8 0, .int .u8 0, .int .u8 0] 95)).setRow w1.heap.size O.toArray)) := Touch.setRow (T1.out.alloc _) (Or.inr T1.out.size) _
  rw [List.toList_toArray] at R2
  have hsm := HSM.out _ _ T2.out (au_row_arg (T := 95) (by rw [hOO]; exact R2) (by have := HKL.out; omega) 16 HKL.out.symm)
  refine Calls.mono hsm ?_
  rintro e w3 ⟨rfl, rfl⟩
  go_wp2_with fail
  go_ret
  exact ⟨rfl, T2.out⟩
set_option maxHeartbeats 1000000 in
theorem withPassword_any (v : Value) (rs : List Int) (x : KE) (w : World) (ok : x.Ok w) (hp : 0 < x.p.sec.length) (hv : ArgAt w v rs) (hby : ∀ z ∈ rs, 0 ≤ z ∧ z < 256) (hl : 24 ≤ rs.length) (hn : rs.length ≤ 1000000) :
    Calls Tryz.prog 21 #[v, x.agg] w fun e w' => ∃ u, e = .returned u ∧ Buf w w' u (signPl rs x.p) := by
  have HS1 : Hid (∀ w', Touch (fun _ => False) w w' → Calls Tryz.prog 62 #[v, .int .u16 0, .int .u16 1, .agg #[.int .u8 0, .int .u8 0, .int .u8 0, .int .u8 0, .int .u8 0, .int .u8 0, .int .u8 0, .int .u8 0]] w' fun e w'' => ∃ u, e = .returned u ∧ Buf w' w'' u (sayB rs 0 1 (List.replicate 8 0))) := fun w' t => saying_any v rs 0 1 (List.replicate 8 0) w' (hv.keep t (fun _ _ h => h)) hl hn (by omega) (by omega) rfl
  have hsb : ∀ z ∈ sayB rs 0 1 (List.replicate 8 0), 0 ≤ z ∧ z < 256 := by
    intro z hz
    unfold sayB at hz
    simp only [List.mem_append] at hz
    rcases hz with (((hz | hz) | hz) | hz) | hz
    · exact hby z (List.mem_of_mem_take hz)
    · exact numBytes_byte _ _ z hz
    · exact numBytes_byte _ _ z hz
    · rw [(List.mem_replicate.mp hz).2]; omega
    · exact hby z (List.mem_of_mem_drop hz)
  have HPL : Hid (∀ w' u, ArgAt w' u (sayB rs 0 1 (List.replicate 8 0)) → Calls Tryz.prog 61 #[u] w' fun e w'' => e = .returned (.int .u16 (plainSum rs)) ∧ Touch (fun _ => False) w' w'') := fun w' u hu => plain_any u _ w' hu hsb
  have hps : 0 ≤ plainSum rs ∧ plainSum rs < 65536 := by unfold plainSum; have := fold_bound (W true (sayB rs 0 1 (List.replicate 8 0))); omega
  have HPW : Hid (∀ w', Touch (fun _ => False) w w' → Calls Tryz.prog 63 #[x.agg] w' fun e w'' => e = .returned (.agg (bytesOf (passB x.p.sec)).toArray) ∧ Touch (fun _ => False) w' w'') := fun w' t => password_any x w' (ok.keep t) hp
  have HS2 : Hid (∀ w', Touch (fun _ => False) w w' → Calls Tryz.prog 62 #[v, .int .u16 (plainSum rs), .int .u16 1, .agg (bytesOf (passB x.p.sec)).toArray] w' fun e w'' => ∃ u, e = .returned u ∧ Buf w' w'' u (signPl rs x.p)) := fun w' t => saying_any v rs (plainSum rs) 1 (passB x.p.sec) w' (hv.keep t (fun _ _ h => h)) hl hn hps (by omega) (length_passB _)
  obtain ⟨va, vc, rfl, -⟩ := hv.form
  generalize signPl rs x.p = SS at *
  generalize plainSum rs = PS at *
  generalize sayB rs 0 1 (List.replicate 8 0) = S1 at *
  generalize (bytesOf (passB x.p.sec)).toArray = O at *
  clear ok hp hv hby hl hn hsb hps
  go_enter Tryz.func21, Tryz.ntmps21
  go_wp2_with fail
  have k0 := kbox_new w x.p.id x.p.kind x.a x.p.sec.length x.c x.p.sf x.p.su x.p.tf x.p.tu
  have t0 : Hid (Touch (fun _ => False) w (w.alloc (.cells #[.int .u8 x.p.id, .int .u16 x.p.kind, .slice x.a x.p.sec.length x.c, .int .i64 x.p.sf, .int .i64 x.p.su, .int .i64 x.p.tf, .int .i64 x.p.tu] 61))) := (Touch.refl _ w).alloc _
  generalize w.alloc (.cells #[.int .u8 x.p.id, .int .u16 x.p.kind, .slice x.a x.p.sec.length x.c, .int .i64 x.p.sf, .int .i64 x.p.su, .int .i64 x.p.tf, .int .i64 x.p.tu] 61) = wa at k0 t0 ⊢
  refine Calls.mono (HS1.out wa t0.out) ?_
  rintro e w1 ⟨u1, rfl, b1⟩
  have k1 := k0.keep b1.t
  have T1 : Hid (Touch (fun _ => False) w w1) := t0.out.trans b1.t
  have A1 : Hid (ArgAt w1 u1 S1) := b1.arg
  clear b1 k0 t0
  go_wp2_with fail
  refine Calls.mono (HPL.out w1 u1 A1.out) ?_
  rintro e w2 ⟨rfl, t2⟩
  have k2 := k1.keep t2
  have T2 : Hid (Touch (fun _ => False) w w2) := T1.out.trans t2
  clear k1 T1 A1 t2
  have c0 := k2.c0
  have c1 := k2.c1
  have c2 := k2.c2
  have c3 := k2.c3
  have c4 := k2.c4
  have c5 := k2.c5
  have c6 := k2.c6
  clear k2
  go_wp2_with fail
  refine Calls.mono (HPW.out w2 T2.out) ?_
  rintro e w3 ⟨rfl, t3⟩
  have T3 : Hid (Touch (fun _ => False) w w3) := T2.out.trans t3
  clear T2 t3 c0 c1 c2 c3 c4 c5 c6
  go_wp2_with fail
  refine Calls.mono (HS2.out w3 T3.out) ?_
  rintro e w4 ⟨u4, rfl, b4⟩
  have B4 : Hid (Buf w w4 u4 SS) := b4.back T3.out
  clear b4
  go_wp2_with fail
  go_ret
  exact ⟨_, rfl, B4.out⟩
set_option maxHeartbeats 1000000 in
theorem withDigest_any (v : Value) (rs : List Int) (x : KE) (seq : Int) (w : World) (ok : x.Ok w) (hv : ArgAt w v rs) (hby : ∀ z ∈ rs, 0 ≤ z ∧ z < 256) (hl : 24 ≤ rs.length) (hn : rs.length ≤ 1000000) (hs : 0 ≤ seq ∧ seq < 4294967296) :
    Calls Tryz.prog 22 #[v, x.agg, .int .u32 seq] w fun e w' => ∃ u, e = .returned u ∧ Buf w w' u (signDg rs x.p seq) := by
  have HMK : Hid (∀ w', Calls Tryz.prog 64 #[.int .u8 x.p.id, .int .u32 seq] w' fun e w'' => e = .returned (.agg (bytesOf (markB x.p.id seq)).toArray) ∧ Touch (fun _ => False) w' w'') := fun w' => mark_any x.p.id seq w' ok.all.id hs
  have HS2 : Hid (∀ w', Touch (fun _ => False) w w' → Calls Tryz.prog 62 #[v, .int .u16 0, .int .u16 2, .agg (bytesOf (markB x.p.id seq)).toArray] w' fun e w'' => ∃ u, e = .returned u ∧ Buf w' w'' u (sayB rs 0 2 (markB x.p.id seq))) := fun w' t => saying_any v rs 0 2 (markB x.p.id seq) w' (hv.keep t (fun _ _ h => h)) hl hn (by omega) (by omega) (length_markB _ _)
  have hsb : ∀ z ∈ sayB rs 0 2 (markB x.p.id seq), 0 ≤ z ∧ z < 256 := by
    intro z hz
    unfold sayB markB at hz
    simp only [List.mem_append] at hz
    rcases hz with (((hz | hz) | hz) | (hz | hz)) | hz
    · exact hby z (List.mem_of_mem_take hz)
    · exact numBytes_byte _ _ z hz
    · exact numBytes_byte _ _ z hz
    · have := ok.all.id; simp at hz; omega
    · exact numBytes_byte _ _ z hz
    · exact hby z (List.mem_of_mem_drop hz)
  have hsl : (sayB rs 0 2 (markB x.p.id seq)).length ≤ 1000000 := by rw [length_sayB 0 2 hl (length_markB _ _)]; exact hn
  have HKY : Hid (∀ w' u, Touch (fun _ => False) w w' → ArgAt w' u (sayB rs 0 2 (markB x.p.id seq)) → Calls Tryz.prog 65 #[x.sv, u] w' fun e w'' => e = .returned (.agg (bytesOf (keyedB x.p.sec (sayB rs 0 2 (markB x.p.id seq)))).toArray) ∧ Touch (fun _ => False) w' w'') := fun w' u t hu => keyed_b _ _ _ _ w' (ok.arg.keep t (fun _ _ h => h)) hu ok.all.sec hsb (by omega)
  have HSS : Hid (sayB rs 0 2 (markB x.p.id seq) ++ keyedB x.p.sec (sayB rs 0 2 (markB x.p.id seq)) = signDg rs x.p seq) := rfl
  have HSL : Hid ((sayB rs 0 2 (markB x.p.id seq)).length ≤ 1000000) := hsl
  have hOl' : (bytesOf (keyedB x.p.sec (sayB rs 0 2 (markB x.p.id seq)))).length = 16 := by rw [length_bytesOf, length_keyedB]
  have hO1 := oneCell_bytesOf (keyedB x.p.sec (sayB rs 0 2 (markB x.p.id seq)))
  have HKL : Hid ((keyedB x.p.sec (sayB rs 0 2 (markB x.p.id seq))).length = 16) := length_keyedB _ _
  obtain ⟨va, vc, rfl, -⟩ := hv.form
  generalize signDg rs x.p seq = SS at *
  generalize keyedB x.p.sec (sayB rs 0 2 (markB x.p.id seq)) = KK at *
  generalize sayB rs 0 2 (markB x.p.id seq) = S1 at *
  generalize (bytesOf (markB x.p.id seq)).toArray = MM at *
  generalize hOO : bytesOf KK = O at HKY hOl' hO1
  dsimp only [KE.sv] at HKY
  clear ok hv hby hl hn hsb hsl
  go_enter Tryz.func22, Tryz.ntmps22
  go_wp2_with fail
  have k0 := kbox_new w x.p.id x.p.kind x.a x.p.sec.length x.c x.p.sf x.p.su x.p.tf x.p.tu
  have t0 : Hid (Touch (fun _ => False) w (w.alloc (.cells #[.int .u8 x.p.id, .int .u16 x.p.kind, .slice x.a x.p.sec.length x.c, .int .i64 x.p.sf, .int .i64 x.p.su, .int .i64 x.p.tf, .int .i64 x.p.tu] 61))) := (Touch.refl _ w).alloc _
  generalize w.alloc (.cells #[.int .u8 x.p.id, .int .u16 x.p.kind, .slice x.a x.p.sec.length x.c, .int .i64 x.p.sf, .int .i64 x.p.su, .int .i64 x.p.tf, .int .i64 x.p.tu] 61) = wa at k0 t0 ⊢
  have c0 := k0.c0
  go_wp2_with fail
  refine Calls.mono (HMK.out wa) ?_
  rintro e w1 ⟨rfl, t1⟩
  have k1 := k0.keep t1
  have T1 : Hid (Touch (fun _ => False) w w1) := t0.out.trans t1
  clear k0 t0 t1 c0
  go_wp2_with fail
  refine Calls.mono (HS2.out w1 T1.out) ?_
  rintro e w2 ⟨u2, rfl, b2⟩
  have k2 := k1.keep b2.t
  have T2 : Hid (Touch (fun _ => False) w w2) := T1.out.trans b2.t
  have B2 : Hid (Buf w w2 u2 S1) := b2.back T1.out
  obtain ⟨ua, uc, rfl⟩ := b2.form
  clear k1 T1 b2
  have c2 := k2.c2
  go_wp2_with fail
  refine Calls.mono (HKY.out w2 _ T2.out B2.out.arg) ?_
  rintro e w3 ⟨rfl, t3⟩
  have B3 : Hid (Buf w w3 (.slice ua S1.length uc) S1) := B2.out.keep t3
  have T3 : Hid (Touch (fun _ => False) w w3) := T2.out.trans t3
  clear k2 T2 B2 t3 c2
  have R4 := (row_new w3 95 #[.int .u8 0, .int .u8 0, .int .u8 0, .int .u8 0, .int .u8 0, .int .u8 0, .int .u8 0, .int .u8 0, .int .u8 0, .int .u8 0, .int .u8 0, .int .u8 0, .int .u8 0, .int .u8 0, .int .u8 0, .int .u8 0]).setRow O.toArray
  have T4 : Hid (Touch (fun _ => False) w3 ((w3.alloc (.cells #[.int .u8 0, .int .u8 0, .int .u8 0, .int .u8 0, .int .u8 0, .int .u8 0, .int .u8 0, .int .u8 0, .int .u8 0, .int .u8 0, .int .u8 0, .int .u8 0, .int .u8 0, .int .u8 0, .int .u8 0, .int .u8 0] 95)).setRow w3.heap.size O.toArray)) := Touch.setRow ((Touch.refl _ w3).alloc _) (Or.inr (Nat.le_refl _)) _
  rw [List.toList_toArray] at R4
  have A4 : Hid (ArgAt ((w3.alloc (.cells #[.int .u8 0, .int .u8 0, .int .u8 0, .int .u8 0, .int .u8 0, .int .u8 0, .int .u8 0, .int .u8 0, .int .u8 0, .int .u8 0, .int .u8 0, .int .u8 0, .int .u8 0, .int .u8 0, .int .u8 0, .int .u8 0] 95)).setRow w3.heap.size O.toArray) (.slice (some ⟨w3.heap.size, 0, none⟩) 16 16) KK) := au_row_arg (T := 95) (by rw [hOO]; exact R4) (by have := HKL.out; omega) 16 HKL.out.symm
  have B4 : Hid (Buf w ((w3.alloc (.cells #[.int .u8 0, .int .u8 0, .int .u8 0, .int .u8 0, .int .u8 0, .int .u8 0, .int .u8 0, .int .u8 0, .int .u8 0, .int .u8 0, .int .u8 0, .int .u8 0, .int .u8 0, .int .u8 0, .int .u8 0, .int .u8 0] 95)).setRow w3.heap.size O.toArray) (.slice ua S1.length uc) S1) := B3.out.keep T4.out
  clear R4 T4
  go_wp2_with (first | refine wpList_store_row rfl 95 (.tmp 8) (.tmp 18) rfl w3.heap.size O.toArray rfl rfl 95 _ (row_new w3 95 _) (by rw [Tryz.info16, List.size_toArray, hOl']) (by simp [hOl']) (all_oneCell hO1) ?_ | (refine app_arg rfl (.tmp 19) (.tmp 20) rfl w _ S1 rfl B4.out _ KK rfl A4.out (by have := HSL.out; have := HKL.out; omega) ?_; intro u5 w5 b5; rw [HSS.out] at b5; have B5 : Hid (Buf w w5 u5 SS) := b5; clear b5))
  go_ret
  exact ⟨_, rfl, B5.out⟩
end Go.Proofs.YtjjgbcjgmjggnaaGreatDoor

namespace Go.Proofs.YtjjgbcjgmjggnaaGreatDoor
open Go.RowKit
set_option linter.unusedVariables false
set_option maxRecDepth 100000

theorem uns_len {rs : List Int} (h : pLenE rs ≠ 0) : unsE rs = pLenE rs := by unfold unsE; rw [if_pos h]
theorem sign_no {rs : List Int} (ks : List AKP) (now seq : Int) (h : unsE rs ≠ 0) : signE rs ks now = unsE rs ∧ signB rs ks now seq = [] := by
  have e : signE rs ks now = unsE rs := by unfold signE; rw [if_pos h]
  exact ⟨e, by unfold signB; rw [if_pos (by rw [e]; exact h)]⟩
theorem pTold_small (rs : List Int) (hby : ∀ z ∈ rs, 0 ≤ z ∧ z < 256) (h : 24 ≤ rs.length) : pTold rs < 65536 := by
  match rs, h with
  | a :: b :: c :: d :: r, _ =>
    have hc := hby c (by simp)
    have hd := hby d (by simp)
    simp [pTold, numOf]
    omega
set_option maxHeartbeats 2000000 in
/-- Refused ahead of the keys. -/
theorem rsign_uns (v vk : Value) (rs : List Int) (ks : List KE) (now seq : Int) (w : World) (hv : ArgAt w v rs) (hby : ∀ z ∈ rs, 0 ≤ z ∧ z < 256) (hn : rs.length ≤ 131072) (hc : ChainAt w vk ks) (hl : ks.length ≤ 1000000) (hsl : ∀ x ∈ ks, x.p.sec.length ≤ 1000000) (hs : 0 ≤ seq ∧ seq < 4294967296) (hu : unsE rs ≠ 0) :
    Calls Tryz.prog 9 #[v, vk, .int .i64 now, .int .u32 seq] w fun e w' => ∃ u, e = .returned (.tuple #[u, .int .i64 (signE rs (pureL ks) now)]) ∧ Buf w w' u (signB rs (pureL ks) now seq) := by
  obtain ⟨hE, hB⟩ := sign_no (pureL ks) now seq hu
  rw [hE, hB]
  obtain ⟨va, vc, rfl, -⟩ := hv.form
  obtain ⟨ka, kc_, rfl, -⟩ := ValsAt.form hc.vals
  have HLn := dlen_any _ rs w hv hby
  have HV : Hid (∀ w', Touch (fun _ => False) w w' → ArgAt w' (.slice va rs.length vc) rs) := fun w' t => hv.keep t (fun _ _ h => h)
  have HBY : Hid _ := hby
  by_cases h1 : pLenE rs = 0
  rotate_left
  · have hx := uns_len h1
    have h1' : (pLenE rs == 0) = false := by simpa using h1
    rw [hx]
    generalize pLenE rs = E at *
    generalize pLenN rs = Nn at *
    clear hx hE hB hu hv hby hc hsl
    go_enter Tryz.func9, Tryz.ntmps9
    go_wp2_with fail
    refine Calls.mono HLn ?_
    rintro e w1 ⟨rfl, n1, rfl⟩
    go_wp2_with fail
    go_ret2
    exact ⟨_, rfl, Buf.nil ((Touch.refl _ _).drewN _)⟩
  have P := pLenE_ok h1
  have hN : pLenN rs = pTold rs := by unfold pLenN; rw [if_pos h1]
  rw [hN, h1] at HLn
  have h24 : 24 ≤ rs.length := P.l
  have hTle := P.n.2
  by_cases h2 : pTold rs < (rs.length : Int)
  · have hx : unsE rs = 22 := by unfold unsE; rw [if_neg (fun e => e h1), if_pos h2]
    have h2' : ((rs.length : Int) == pTold rs) = false := by rw [beq_eq_false_iff_ne]; omega
    rw [hx]
    generalize pTold rs = T at *
    clear hx hE hB hu hv hby hc hsl P hN h1 h2 hTle
    go_enter Tryz.func9, Tryz.ntmps9
    go_wp2_with fail
    refine Calls.mono HLn ?_
    rintro e w1 ⟨rfl, n1, rfl⟩
    go_wp2_with fail
    go_ret2
    exact ⟨_, rfl, Buf.nil ((Touch.refl _ _).drewN _)⟩
  have hT : pTold rs = (rs.length : Int) := by omega
  rw [hT] at HLn
  by_cases h3 : kindB rs = 0
  rotate_left
  · have hx : unsE rs = 25 := by unfold unsE; rw [if_neg (fun e => e h1), if_neg h2, if_pos h3]
    have h3' : (kindB rs == 0) = false := by simpa using h3
    have HK := fun w' (t : Touch (fun _ => False) w w') => rkind_any _ rs w' (HV.out w' t) HBY.out h24
    rw [hx]
    generalize kindB rs = Kd at *
    clear hx hE hB hu hv hby hc hsl P hN h1 h2 hTle hT h3
    go_enter Tryz.func9, Tryz.ntmps9
    go_wp2_with fail
    refine Calls.mono HLn ?_
    rintro e w1 ⟨rfl, n1, rfl⟩
    go_wp2_with fail
    refine Calls.mono (HK _ ((Touch.refl _ _).drewN _)) ?_
    rintro e w2 ⟨rfl, t2⟩
    have T2 : Hid (Touch (fun _ => False) w w2) := ((Touch.refl _ _).drewN _).trans t2
    clear t2
    go_wp2_with fail
    go_ret2
    exact ⟨_, rfl, Buf.nil T2.out⟩
  have h4 : pRight rs = false := by
    cases h : pRight rs
    · rfl
    · exfalso
      apply hu
      unfold unsE
      rw [if_neg (fun e => e h1), if_neg h2, if_neg (fun e => e h3), h, if_neg (by decide)]
  have hx : unsE rs = 23 := by unfold unsE; rw [if_neg (fun e => e h1), if_neg h2, if_neg (fun e => e h3), if_pos h4]
  have hsm : rs.length ≤ 65536 := by have := pTold_small rs hby h24; omega
  have HK := fun w' (t : Touch (fun _ => False) w w') => rkind_any _ rs w' (HV.out w' t) HBY.out h24
  have HR := fun w' (t : Touch (fun _ => False) w w') => dright_any _ rs w' (HV.out w' t) HBY.out hsm
  rw [h3] at HK
  rw [h4] at HR
  rw [hx]
  clear hx hE hB hu hv hby hc hsl P hN h1 h2 hTle hT h3 h4
  go_enter Tryz.func9, Tryz.ntmps9
  go_wp2_with fail
  refine Calls.mono HLn ?_
  rintro e w1 ⟨rfl, n1, rfl⟩
  go_wp2_with fail
  refine Calls.mono (HK _ ((Touch.refl _ _).drewN _)) ?_
  rintro e w2 ⟨rfl, t2⟩
  have T2 : Hid (Touch (fun _ => False) w w2) := ((Touch.refl _ _).drewN _).trans t2
  clear t2
  go_wp2_with fail
  refine Calls.mono (HR w2 T2.out) ?_
  rintro e w3 ⟨rfl, t3⟩
  have T3 : Hid (Touch (fun _ => False) w w3) := T2.out.trans t3
  clear t3
  go_wp2_with fail
  go_ret2
  exact ⟨_, rfl, Buf.nil T3.out⟩
end Go.Proofs.YtjjgbcjgmjggnaaGreatDoor
