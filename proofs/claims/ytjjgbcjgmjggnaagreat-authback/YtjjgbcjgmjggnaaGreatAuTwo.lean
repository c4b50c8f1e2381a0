/- What is laid with a password, with a digest; whether a digest is right. -/
import Derived.Test.YtjjgbcjgmjggnaaGreatAuDg
import Derived.Test.YtjjgbcjgmjggnaaGreatDigRow
import Derived.Test.YtjjgbcjgmjggnaaGreatDigBase
import Derived.Test.YtjjgbcjgmjggnaaGreatDigBuf
namespace Go.Proofs.YtjjgbcjgmjggnaaGreat
open Go.RowKit
set_option linter.unusedVariables false
set_option maxRecDepth 100000

theorem length_keyedB (s b : List Int) : (keyedB s b).length = 16 := by unfold keyedB; rw [length_natB]; exact length_outN _
theorem keyedB_byte (s b : List Int) : ∀ z ∈ keyedB s b, 0 ≤ z ∧ z < 256 := by
  intro z hz
  unfold keyedB at hz
  simp only [natB, List.mem_map] at hz
  obtain ⟨n, hn, rfl⟩ := hz
  have := outN_byte _ n hn
  omega
theorem keyed_b (vk v : Value) (ks ns : List Int) (w : World) (hk : ArgAt w vk ks) (hv : ArgAt w v ns) (hbk : ∀ z ∈ ks, 0 ≤ z ∧ z < 256) (hby : ∀ z ∈ ns, 0 ≤ z ∧ z < 256) (hl : ns.length ≤ 1073741824) :
    Calls Tryz.prog 75 #[vk, v] w fun e w' => e = .returned (.agg (bytesOf (keyedB ks ns)).toArray) ∧ Touch (fun _ => False) w w' :=
  keyed_any vk v (toN ks) (toN ns) w (by rw [natB_toN hbk]; exact hk) (by rw [natB_toN hby]; exact hv) (toN_byte hbk) (toN_byte hby) (by rw [length_toN]; exact hl)
set_option maxHeartbeats 1000000 in
theorem isDigest_any (vd vb : Value) (ds bs : List Int) (x : KE) (w : World) (ok : x.Ok w) (hd : ArgAt w vd ds) (hb : ArgAt w vb bs) (hbd : ∀ z ∈ ds, 0 ≤ z ∧ z < 256) (hby : ∀ z ∈ bs, 0 ≤ z ∧ z < 256) (hl : bs.length ≤ 1073741824) :
    Calls Tryz.prog 110 #[vd, x.agg, vb] w fun e w' => e = .returned (.bool (decide (ds = keyedB x.p.sec bs))) ∧ Touch (fun _ => False) w w' := by
  have HKY : Hid (∀ w', Touch (fun _ => False) w w' → Calls Tryz.prog 75 #[x.sv, vb] w' fun e w'' => e = .returned (.agg (bytesOf (keyedB x.p.sec bs)).toArray) ∧ Touch (fun _ => False) w' w'') := fun w' t => keyed_b _ _ _ _ w' (ok.arg.keep t (fun _ _ h => h)) (hb.keep t (fun _ _ h => h)) ok.all.sec hby hl
  have HSM : Hid (∀ w' vy, Touch (fun _ => False) w w' → ArgAt w' vy (keyedB x.p.sec bs) → Calls Tryz.prog 138 #[vd, vy] w' fun e w'' => e = .returned (.bool (decide (ds = keyedB x.p.sec bs))) ∧ w' = w'') := fun w' vy t hy => same_any vd vy ds _ w' (hd.keep t (fun _ _ h => h)) hy hbd (keyedB_byte _ _)
  have hOl' : (bytesOf (keyedB x.p.sec bs)).length = 16 := by rw [length_bytesOf, length_keyedB]
  have hO1 := oneCell_bytesOf (keyedB x.p.sec bs)
  have HKL : Hid ((keyedB x.p.sec bs).length = 16) := length_keyedB _ _
  obtain ⟨va, vc, rfl, -⟩ := hd.form
  obtain ⟨ba, bc, rfl, -⟩ := hb.form
  generalize decide (ds = keyedB x.p.sec bs) = DD at *
  generalize keyedB x.p.sec bs = KK at *
  generalize hOO : bytesOf KK = O at HKY hOl' hO1
  dsimp only [KE.sv] at HKY
  clear ok hd hb hbd hby hl
  go_enter Tryz.func110, Tryz.ntmps110
  go_wp2_with fail
  have k0 := kbox_new w x.p.id x.p.kind x.a x.p.sec.length x.c x.p.sf x.p.su x.p.tf x.p.tu
  have t0 : Hid (Touch (fun _ => False) w (w.alloc (.cells #[.int .u8 x.p.id, .int .u16 x.p.kind, .slice x.a x.p.sec.length x.c, .int .i64 x.p.sf, .int .i64 x.p.su, .int .i64 x.p.tf, .int .i64 x.p.tu] 56))) := (Touch.refl _ w).alloc _
  generalize w.alloc (.cells #[.int .u8 x.p.id, .int .u16 x.p.kind, .slice x.a x.p.sec.length x.c, .int .i64 x.p.sf, .int .i64 x.p.su, .int .i64 x.p.tf, .int .i64 x.p.tu] 56) = wa at k0 t0 ⊢
  have c2 := k0.c2
  go_wp2_with fail
  refine Calls.mono (HKY.out wa t0.out) ?_
  rintro e w1 ⟨rfl, t1⟩
  have T1 : Hid (Touch (fun _ => False) w w1) := t0.out.trans t1
  clear t1 t0 k0 c2
  go_wp2_with (first | refine wpList_store_row rfl 130 (.tmp 7) (.tmp 11) rfl w1.heap.size O.toArray rfl rfl 130 _ (row_new w1 130 _) (by rw [Tryz.info16, List.size_toArray, hOl']) (by simp [hOl']) (all_oneCell hO1) ?_)
  have R2 := (row_new w1 130 #[.int .u8 0, .int .u8 0, .int .u8 0, .int .u8 0, .int .u8 0, .int .u8 0, .int .u8 0, .int .u8 0, .int .u8 0, .int .u8 0, .int .u8 0, .int .u8 0, .int .u8 0, .int .u8 0, .int .u8 0, .int .u8 0]).setRow O.toArray
  have T2 : Hid (Touch (fun _ => False) w ((w1.alloc (.cells #[.int .u8 0, .int .u8 0, .int .u8 0, .int .u8 0, .int .u8 0, .int .u8 0, .int .u8 0, .int .u8 0, .int .u8 0, .int .u8 0, .int .u8 0, .int .u8 0, .int .u8 0, .int .u8 0, .int .u8 0, .int .u8 0] 130)).setRow w1.heap.size O.toArray)) := Touch.setRow (T1.out.alloc _) (Or.inr T1.out.size) _
  rw [List.toList_toArray] at R2
  have hsm := HSM.out _ _ T2.out (au_row_arg (T := 130) (by rw [hOO]; exact R2) (by have := HKL.out; omega) 16 HKL.out.symm)
  refine Calls.mono hsm ?_
  rintro e w3 ⟨rfl, rfl⟩
  go_wp2_with fail
  go_ret
  exact ⟨rfl, T2.out⟩
set_option maxHeartbeats 1000000 in
theorem withPassword_any (v : Value) (rs : List Int) (x : KE) (w : World) (ok : x.Ok w) (hp : 0 < x.p.sec.length) (hv : ArgAt w v rs) (hby : ∀ z ∈ rs, 0 ≤ z ∧ z < 256) (hl : 24 ≤ rs.length) (hn : rs.length ≤ 1000000) :
    Calls Tryz.prog 38 #[v, x.agg] w fun e w' => ∃ u, e = .returned u ∧ Buf w w' u (signPl rs x.p) := by
  have HS1 : Hid (∀ w', Touch (fun _ => False) w w' → Calls Tryz.prog 72 #[v, .int .u16 0, .int .u16 1, .agg #[.int .u8 0, .int .u8 0, .int .u8 0, .int .u8 0, .int .u8 0, .int .u8 0, .int .u8 0, .int .u8 0]] w' fun e w'' => ∃ u, e = .returned u ∧ Buf w' w'' u (sayB rs 0 1 (List.replicate 8 0))) := fun w' t => saying_any v rs 0 1 (List.replicate 8 0) w' (hv.keep t (fun _ _ h => h)) hl hn (by omega) (by omega) rfl
  have hsb : ∀ z ∈ sayB rs 0 1 (List.replicate 8 0), 0 ≤ z ∧ z < 256 := by
    intro z hz
    unfold sayB at hz
    simp only [List.mem_append] at hz
    rcases hz with (((hz | hz) | hz) | hz) | hz
    · exact hby z (List.mem_of_mem_take hz)
    · exact numBytes_byte _ _ z hz
    · exact numBytes_byte _ _ z hz
    · rw [(List.mem_replicate.mp hz).2]; omega
    · exact hby z (List.mem_of_mem_drop hz)
  have HPL : Hid (∀ w' u, ArgAt w' u (sayB rs 0 1 (List.replicate 8 0)) → Calls Tryz.prog 71 #[u] w' fun e w'' => e = .returned (.int .u16 (plainSum rs)) ∧ Touch (fun _ => False) w' w'') := fun w' u hu => plain_any u _ w' hu hsb
  have hps : 0 ≤ plainSum rs ∧ plainSum rs < 65536 := by unfold plainSum; have := fold_bound (W true (sayB rs 0 1 (List.replicate 8 0))); omega
  have HPW : Hid (∀ w', Touch (fun _ => False) w w' → Calls Tryz.prog 73 #[x.agg] w' fun e w'' => e = .returned (.agg (bytesOf (passB x.p.sec)).toArray) ∧ Touch (fun _ => False) w' w'') := fun w' t => password_any x w' (ok.keep t) hp
  have HS2 : Hid (∀ w', Touch (fun _ => False) w w' → Calls Tryz.prog 72 #[v, .int .u16 (plainSum rs), .int .u16 1, .agg (bytesOf (passB x.p.sec)).toArray] w' fun e w'' => ∃ u, e = .returned u ∧ Buf w' w'' u (signPl rs x.p)) := fun w' t => saying_any v rs (plainSum rs) 1 (passB x.p.sec) w' (hv.keep t (fun _ _ h => h)) hl hn hps (by omega) (length_passB _)
  obtain ⟨va, vc, rfl, -⟩ := hv.form
  generalize signPl rs x.p = SS at *
  generalize plainSum rs = PS at *
  generalize sayB rs 0 1 (List.replicate 8 0) = S1 at *
  generalize (bytesOf (passB x.p.sec)).toArray = O at *
  clear ok hp hv hby hl hn hsb hps
  go_enter Tryz.func38, Tryz.ntmps38
  go_wp2_with fail
  have k0 := kbox_new w x.p.id x.p.kind x.a x.p.sec.length x.c x.p.sf x.p.su x.p.tf x.p.tu
  have t0 : Hid (Touch (fun _ => False) w (w.alloc (.cells #[.int .u8 x.p.id, .int .u16 x.p.kind, .slice x.a x.p.sec.length x.c, .int .i64 x.p.sf, .int .i64 x.p.su, .int .i64 x.p.tf, .int .i64 x.p.tu] 56))) := (Touch.refl _ w).alloc _
  generalize w.alloc (.cells #[.int .u8 x.p.id, .int .u16 x.p.kind, .slice x.a x.p.sec.length x.c, .int .i64 x.p.sf, .int .i64 x.p.su, .int .i64 x.p.tf, .int .i64 x.p.tu] 56) = wa at k0 t0 ⊢
  refine Calls.mono (HS1.out wa t0.out) ?_
  rintro e w1 ⟨u1, rfl, b1⟩
  have k1 := k0.keep b1.t
  have T1 : Hid (Touch (fun _ => False) w w1) := t0.out.trans b1.t
  have A1 : Hid (ArgAt w1 u1 S1) := b1.arg
  clear b1 k0 t0
  go_wp2_with fail
  refine Calls.mono (HPL.out w1 u1 A1.out) ?_
  rintro e w2 ⟨rfl, t2⟩
  have k2 := k1.keep t2
  have T2 : Hid (Touch (fun _ => False) w w2) := T1.out.trans t2
  clear k1 T1 A1 t2
  have c0 := k2.c0
  have c1 := k2.c1
  have c2 := k2.c2
  have c3 := k2.c3
  have c4 := k2.c4
  have c5 := k2.c5
  have c6 := k2.c6
  clear k2
  go_wp2_with fail
  refine Calls.mono (HPW.out w2 T2.out) ?_
  rintro e w3 ⟨rfl, t3⟩
  have T3 : Hid (Touch (fun _ => False) w w3) := T2.out.trans t3
  clear T2 t3 c0 c1 c2 c3 c4 c5 c6
  go_wp2_with fail
  refine Calls.mono (HS2.out w3 T3.out) ?_
  rintro e w4 ⟨u4, rfl, b4⟩
  have B4 : Hid (Buf w w4 u4 SS) := b4.back T3.out
  clear b4
  go_wp2_with fail
  go_ret
  exact ⟨_, rfl, B4.out⟩
set_option maxHeartbeats 1000000 in
theorem withDigest_any (v : Value) (rs : List Int) (x : KE) (seq : Int) (w : World) (ok : x.Ok w) (hv : ArgAt w v rs) (hby : ∀ z ∈ rs, 0 ≤ z ∧ z < 256) (hl : 24 ≤ rs.length) (hn : rs.length ≤ 1000000) (hs : 0 ≤ seq ∧ seq < 4294967296) :
    Calls Tryz.prog 39 #[v, x.agg, .int .u32 seq] w fun e w' => ∃ u, e = .returned u ∧ Buf w w' u (signDg rs x.p seq) := by
  have HMK : Hid (∀ w', Calls Tryz.prog 74 #[.int .u8 x.p.id, .int .u32 seq] w' fun e w'' => e = .returned (.agg (bytesOf (markB x.p.id seq)).toArray) ∧ Touch (fun _ => False) w' w'') := fun w' => mark_any x.p.id seq w' ok.all.id hs
  have HS2 : Hid (∀ w', Touch (fun _ => False) w w' → Calls Tryz.prog 72 #[v, .int .u16 0, .int .u16 2, .agg (bytesOf (markB x.p.id seq)).toArray] w' fun e w'' => ∃ u, e = .returned u ∧ Buf w' w'' u (sayB rs 0 2 (markB x.p.id seq))) := fun w' t => saying_any v rs 0 2 (markB x.p.id seq) w' (hv.keep t (fun _ _ h => h)) hl hn (by omega) (by omega) (length_markB _ _)
  have hsb : ∀ z ∈ sayB rs 0 2 (markB x.p.id seq), 0 ≤ z ∧ z < 256 := by
    intro z hz
    unfold sayB markB at hz
    simp only [List.mem_append] at hz
    rcases hz with (((hz | hz) | hz) | (hz | hz)) | hz
    · exact hby z (List.mem_of_mem_take hz)
    · exact numBytes_byte _ _ z hz
    · exact numBytes_byte _ _ z hz
    · have := ok.all.id; simp at hz; omega
    · exact numBytes_byte _ _ z hz
    · exact hby z (List.mem_of_mem_drop hz)
  have hsl : (sayB rs 0 2 (markB x.p.id seq)).length ≤ 1000000 := by rw [length_sayB 0 2 hl (length_markB _ _)]; exact hn
  have HKY : Hid (∀ w' u, Touch (fun _ => False) w w' → ArgAt w' u (sayB rs 0 2 (markB x.p.id seq)) → Calls Tryz.prog 75 #[x.sv, u] w' fun e w'' => e = .returned (.agg (bytesOf (keyedB x.p.sec (sayB rs 0 2 (markB x.p.id seq)))).toArray) ∧ Touch (fun _ => False) w' w'') := fun w' u t hu => keyed_b _ _ _ _ w' (ok.arg.keep t (fun _ _ h => h)) hu ok.all.sec hsb (by omega)
  have HSS : Hid (sayB rs 0 2 (markB x.p.id seq) ++ keyedB x.p.sec (sayB rs 0 2 (markB x.p.id seq)) = signDg rs x.p seq) := rfl
  have HSL : Hid ((sayB rs 0 2 (markB x.p.id seq)).length ≤ 1000000) := hsl
  have hOl' : (bytesOf (keyedB x.p.sec (sayB rs 0 2 (markB x.p.id seq)))).length = 16 := by rw [length_bytesOf, length_keyedB]
  have hO1 := oneCell_bytesOf (keyedB x.p.sec (sayB rs 0 2 (markB x.p.id seq)))
  have HKL : Hid ((keyedB x.p.sec (sayB rs 0 2 (markB x.p.id seq))).length = 16) := length_keyedB _ _
  obtain ⟨va, vc, rfl, -⟩ := hv.form
  generalize signDg rs x.p seq = SS at *
  generalize keyedB x.p.sec (sayB rs 0 2 (markB x.p.id seq)) = KK at *
  generalize sayB rs 0 2 (markB x.p.id seq) = S1 at *
  generalize (bytesOf (markB x.p.id seq)).toArray = MM at *
  generalize hOO : bytesOf KK = O at HKY hOl' hO1
  dsimp only [KE.sv] at HKY
  clear ok hv hby hl hn hsb hsl
  go_enter Tryz.func39, Tryz.ntmps39
  go_wp2_with fail
  have k0 := kbox_new w x.p.id x.p.kind x.a x.p.sec.length x.c x.p.sf x.p.su x.p.tf x.p.tu
  have t0 : Hid (Touch (fun _ => False) w (w.alloc (.cells #[.int .u8 x.p.id, .int .u16 x.p.kind, .slice x.a x.p.sec.length x.c, .int .i64 x.p.sf, .int .i64 x.p.su, .int .i64 x.p.tf, .int .i64 x.p.tu] 56))) := (Touch.refl _ w).alloc _
  generalize w.alloc (.cells #[.int .u8 x.p.id, .int .u16 x.p.kind, .slice x.a x.p.sec.length x.c, .int .i64 x.p.sf, .int .i64 x.p.su, .int .i64 x.p.tf, .int .i64 x.p.tu] 56) = wa at k0 t0 ⊢
  have c0 := k0.c0
  go_wp2_with fail
  refine Calls.mono (HMK.out wa) ?_
  rintro e w1 ⟨rfl, t1⟩
  have k1 := k0.keep t1
  have T1 : Hid (Touch (fun _ => False) w w1) := t0.out.trans t1
  clear k0 t0 t1 c0
  go_wp2_with fail
  refine Calls.mono (HS2.out w1 T1.out) ?_
  rintro e w2 ⟨u2, rfl, b2⟩
  have k2 := k1.keep b2.t
  have T2 : Hid (Touch (fun _ => False) w w2) := T1.out.trans b2.t
  have B2 : Hid (Buf w w2 u2 S1) := b2.back T1.out
  obtain ⟨ua, uc, rfl⟩ := b2.form
  clear k1 T1 b2
  have c2 := k2.c2
  go_wp2_with fail
  refine Calls.mono (HKY.out w2 _ T2.out B2.out.arg) ?_
  rintro e w3 ⟨rfl, t3⟩
  have B3 : Hid (Buf w w3 (.slice ua S1.length uc) S1) := B2.out.keep t3
  have T3 : Hid (Touch (fun _ => False) w w3) := T2.out.trans t3
  clear k2 T2 B2 t3 c2
  have R4 := (row_new w3 130 #[.int .u8 0, .int .u8 0, .int .u8 0, .int .u8 0, .int .u8 0, .int .u8 0, .int .u8 0, .int .u8 0, .int .u8 0, .int .u8 0, .int .u8 0, .int .u8 0, .int .u8 0, .int .u8 0, .int .u8 0, .int .u8 0]).setRow O.toArray
  have T4 : Hid (Touch (fun _ => False) w3 ((w3.alloc (.cells #[.int .u8 0, .int .u8 0, .int .u8 0, .int .u8 0, .int .u8 0, .int .u8 0, .int .u8 0, .int .u8 0, .int .u8 0, .int .u8 0, .int .u8 0, .int .u8 0, .int .u8 0, .int .u8 0, .int .u8 0, .int .u8 0] 130)).setRow w3.heap.size O.toArray)) := Touch.setRow ((Touch.refl _ w3).alloc _) (Or.inr (Nat.le_refl _)) _
  rw [List.toList_toArray] at R4
  have A4 : Hid (ArgAt ((w3.alloc (.cells #[.int .u8 0, .int .u8 0, .int .u8 0, .int .u8 0, .int .u8 0, .int .u8 0, .int .u8 0, .int .u8 0, .int .u8 0, .int .u8 0, .int .u8 0, .int .u8 0, .int .u8 0, .int .u8 0, .int .u8 0, .int .u8 0] 130)).setRow w3.heap.size O.toArray) (.slice (some ⟨w3.heap.size, 0, none⟩) 16 16) KK) := au_row_arg (T := 130) (by rw [hOO]; exact R4) (by have := HKL.out; omega) 16 HKL.out.symm
  have B4 : Hid (Buf w ((w3.alloc (.cells #[.int .u8 0, .int .u8 0, .int .u8 0, .int .u8 0, .int .u8 0, .int .u8 0, .int .u8 0, .int .u8 0, .int .u8 0, .int .u8 0, .int .u8 0, .int .u8 0, .int .u8 0, .int .u8 0, .int .u8 0, .int .u8 0] 130)).setRow w3.heap.size O.toArray) (.slice ua S1.length uc) S1) := B3.out.keep T4.out
  clear R4 T4
  go_wp2_with (first | refine wpList_store_row rfl 130 (.tmp 8) (.tmp 18) rfl w3.heap.size O.toArray rfl rfl 130 _ (row_new w3 130 _) (by rw [Tryz.info16, List.size_toArray, hOl']) (by simp [hOl']) (all_oneCell hO1) ?_ | (refine app_arg rfl (.tmp 19) (.tmp 20) rfl w _ S1 rfl B4.out _ KK rfl A4.out (by have := HSL.out; have := HKL.out; omega) ?_; intro u5 w5 b5; rw [HSS.out] at b5; have B5 : Hid (Buf w w5 u5 SS) := b5; clear b5))
  go_ret
  exact ⟨_, rfl, B5.out⟩
end Go.Proofs.YtjjgbcjgmjggnaaGreat

namespace Go.Proofs.YtjjgbcjgmjggnaaGreat
open Go.RowKit
set_option linter.unusedVariables false
set_option maxRecDepth 100000

theorem cut_left (E t : List Int) (i m : Nat) (h : i + m ≤ E.length) : ((E ++ t).drop i).take m = (E.drop i).take m := by
  rw [List.drop_append_of_le_length (by omega), List.take_append_of_le_length (by rw [List.length_drop]; omega)]
theorem getD_left (E t : List Int) (i : Nat) (h : i < E.length) : (E ++ t).getD i 0 = E.getD i 0 := by
  simp [List.getD, List.getElem?_append_left h]
theorem told_left {E : List Int} (t : List Int) (h : 24 ≤ E.length) : pTold (E ++ t) = pTold E := by unfold pTold; rw [cut_left E t 2 2 (by omega)]
theorem kind_left {E : List Int} (t : List Int) (h : 24 ≤ E.length) : kindB (E ++ t) = kindB E := by unfold kindB; rw [cut_left E t 14 2 (by omega)]
theorem data_left {E : List Int} (t : List Int) (h : 24 ≤ E.length) : dataB (E ++ t) = dataB E := by unfold dataB; rw [cut_left E t 16 8 (by omega)]
theorem pv_left {E : List Int} (t : List Int) (h : 24 ≤ E.length) : pv0 (E ++ t) = pv0 E := by
  unfold pv0
  rw [getD_left E t 1 (by omega), cut_left E t 4 4 (by omega), cut_left E t 8 4 (by omega)]
theorem au_left {E : List Int} (t : List Int) (h : 24 ≤ E.length) : au0 (E ++ t) = au0 E := by
  unfold au0
  rw [cut_left E t 14 2 (by omega), getD_left E t 16 (by omega), getD_left E t 17 (by omega), getD_left E t 18 (by omega), getD_left E t 19 (by omega), getD_left E t 20 (by omega), getD_left E t 21 (by omega), getD_left E t 22 (by omega), getD_left E t 23 (by omega)]
theorem len_left {E : List Int} (t : List Int) (h : pLenE E = 0) (hl : 24 ≤ E.length) (ht : pTold E = (E.length : Nat)) : pLenE (E ++ t) = 0 := by
  have P := pLenE_ok h
  refine PLen.zero ⟨by rw [List.length_append]; omega, by rw [getD_left E t 0 (by omega)]; exact P.v, by rw [getD_left E t 1 (by omega)]; exact P.t, ?_⟩
  rw [told_left t hl, ht, List.length_append]
  omega
theorem behind_left {E : List Int} (t : List Int) (hl : 24 ≤ E.length) (ht : pTold E = (E.length : Nat)) : pbehind (E ++ t) = pbehind E := by
  unfold pbehind
  rw [told_left t hl, ht, Int.toNat_natCast, List.take_append_of_le_length (Nat.le_refl _)]
/-- What is read of an encoding with a digest behind it. -/
theorem dec_left {C : PkC} {A : AuV} {E : List Int} (R : PRound C A E) (hk : A.kind = 2) (t : List Int) : pdecE (E ++ t) = 0 ∧ pdecC (E ++ t) = C ∧ pdecA (E ++ t) = A := by
  have D := pdecE_ok R.e
  have ha : au0 E = A := by have := R.a; unfold pdecA at this; rw [if_pos R.e] at this; exact this
  have hc : ppartC (pv0 E) (pbehind E) = C := by have := R.c; unfold pdecC at this; rw [if_pos R.e] at this; exact this
  have hE : PDec (E ++ t) := by
    refine ⟨pLenE_ok (len_left t R.len R.least R.told), by rw [au_left t R.least]; exact D.k, fun g => ?_, fun g => ?_, ?_⟩
    · rw [au_left t R.least, ha] at g; exact absurd hk g
    · rw [au_left t R.least, ha] at g; exact absurd hk g
    · rw [getD_left E t 1 (by have := R.least; omega), behind_left t R.least R.told]; exact D.p
  have hz := hE.zero
  refine ⟨hz, ?_, ?_⟩
  · unfold pdecC; rw [if_pos hz, pv_left t R.least, behind_left t R.least R.told]; exact hc
  · unfold pdecA; rw [if_pos hz, au_left t R.least]; exact ha
theorem markId_markB (id seq : Int) : markId (markB id seq) = id := by simp [markId, markB, numOf]
theorem markSeq_markB {id seq : Int} (h0 : 0 ≤ seq) (h1 : seq < 4294967296) : markSeq (markB id seq) = seq := by
  have e : ((markB id seq).drop 4).take 4 = numBytes 4 seq := by simp [markB, numBytes4]
  unfold markSeq
  rw [e, numOf_four _ h0 h1]
theorem bp_markB_byte {id seq : Int} (h : 0 ≤ id ∧ id < 256) : ∀ z ∈ markB id seq, 0 ≤ z ∧ z < 256 := by
  intro z hz
  simp only [markB, numBytes4, List.cons_append, List.nil_append, List.mem_cons, List.not_mem_nil, or_false] at hz
  rcases hz with rfl | rfl | rfl | rfl | rfl | rfl | rfl | rfl <;> omega
theorem ach_nil : achE [] = 0 := by simp [achE, firstBad]
theorem openE_len {c : List Int} (h : pLenE c = 0) (ks : List AKP) (now : Int) : openE c ks now = openE0 c (pTold c) ks now := by unfold openE; rw [if_neg (fun e => e h)]
/-- Another kind. -/
theorem open_other {c : List Int} (h : pLenE c = 0) {ks : List AKP} (ha : achE ks = 0) (hk : kindB c ≠ kindOfL ks) (now : Int) : openE c ks now = 25 := by
  rw [openE_len h]
  unfold openE0
  rw [if_neg (fun e => e ha), if_pos hk]
/-- What came of signing: all that the statement asks. -/
structure Back (C : PkC) (ks : List AKP) (now seq : Int) (k : AKP) (b c : List Int) (A : AuV) : Prop where
  sE : signE b ks now = 0
  sB : signB b ks now seq = c
  i : openE c [] now = 25
  j : openE b ks now = 25
  bt : ∀ z ∈ c, 0 ≤ z ∧ z < 256
  small : c.length ≤ 70000
  h : k.takes now = true → openE c ks now = 0 ∧ openN c ks now = (b.length : Nat) ∧ (k.kind = 2 → openS c ks now = seq)
  dE : pdecE c = 0
  dC : pdecC c = C
  dA : pdecA c = A
  kk : A.kind = k.kind
  oa : A.Ok
theorem enc_len {C : PkC} {A : AuV} (h : pencE C A = 0) : (pencB C A).length = 24 + (pbodyB C).length := by rw [penc_form h, List.length_append, length_phead2]
theorem back_all {C : PkC} (ok : C.Ok) (h : pencE C au00 = 0) {ks : List AKP} (ha : achE ks = 0) (hok : ∀ k ∈ ks, k.Ok) {now seq : Int} (hs : 0 ≤ seq ∧ seq < 4294967296) {k : AKP} (hc : 0 ≤ chooseI ks now) (hk : ks[(chooseI ks now).toNat]? = some k) :
    ∃ c A, Back C ks now seq k (pencB C au00) c A := by
  have hu := uns_enc ok h
  have R0 := pround ok au00_ok h
  have hkm : k ∈ ks := List.mem_of_getElem? hk
  have hko := hok k hkm
  obtain ⟨hl16, hbad⟩ := chk_ok ha
  have hj := (List.getElem?_eq_some_iff.mp hk).1
  obtain ⟨hmay, hkind, -⟩ := badAt_ok hk (hbad _ hj)
  have h12 := AKP.may_kind hmay
  have hk0 : kindB (pencB C au00) = 0 := by rw [penc_form h]; exact kindB_head _ _ _ _ _ (by decide) (by decide)
  have hne : ks.length ≠ 0 := by omega
  have hE : signE (pencB C au00) ks now = 0 := by
    unfold signE
    rw [if_neg (fun e => e hu), if_neg hne, if_neg (by rw [ha]; omega)]
  have hB : signB (pencB C au00) ks now seq = signW (pencB C au00) k seq := by
    unfold signB
    rw [if_neg (fun e => e hE), hk]
  have hJ : openE (pencB C au00) ks now = 25 := open_other R0.len ha (by rw [hk0, ← hkind]; omega) now
  rcases h12 with h1 | h2
  · have hd := length_passB k.sec
    have oa : (auOf 1 (passB k.sec)).Ok := auOf_ok hd (by omega) (bp_passB_byte hko.sec)
    have h1e : pencE C (auOf 1 (passB k.sec)) = 0 := penc_other h (by simp [auOf])
    have R := pround ok oa h1e
    have hkb : kindB (pencB C (auOf 1 (passB k.sec))) = 1 := by rw [penc_form h1e]; exact kindB_head _ _ _ _ _ (by simp [auOf]) (by simp [auOf])
    have hdt : dataB (pencB C (auOf 1 (passB k.sec))) = passB k.sec := by rw [penc_form h1e, dataB_head, auOf_data hd]
    have hW : signW (pencB C au00) k seq = pencB C (auOf 1 (passB k.sec)) := by unfold signW; rw [if_pos h1, signPl_enc h]
    refine ⟨_, _, hE, hB.trans hW, open_other R.len ach_nil (by rw [hkb]; show (1 : Int) ≠ 0; decide) now, hJ, R.bt, by have := R.small; omega, fun ht => ?_, R.e, R.c, R.a, by rw [h1]; rfl, oa⟩
    have hO : openE (pencB C (auOf 1 (passB k.sec))) ks now = 0 := by
      have hw : wholeE (pencB C (auOf 1 (passB k.sec))) (pTold (pencB C (auOf 1 (passB k.sec)))) = 0 := by
        unfold wholeE
        rw [R.told, if_neg (by omega), R.right (by simp [auOf]), if_neg (by decide)]
      have hp : passAny ks now (passB k.sec) = true := by
        unfold passAny
        rw [List.any_eq_true]
        exact ⟨k, hkm, by simp [ht]⟩
      rw [openE_len R.len]
      unfold openE0
      rw [if_neg (fun e => e ha), hkb, hdt, if_neg (by rw [← hkind, h1]; simp), if_pos rfl]
      unfold openPl
      rw [hw, if_neg (by simp), if_pos hp]
    refine ⟨hO, ?_, fun e => by omega⟩
    unfold openN
    rw [if_pos hO, R.told, enc_len h1e, enc_len h]
  · have hd := bp_length_markB k.id seq
    have oa : (auOf 2 (markB k.id seq)).Ok := auOf_ok hd (by omega) (bp_markB_byte hko.id)
    have h2e : pencE C (auOf 2 (markB k.id seq)) = 0 := penc_other h (by simp [auOf])
    have R := pround ok oa h2e
    have hkb : kindB (pencB C (auOf 2 (markB k.id seq))) = 2 := by rw [penc_form h2e]; exact kindB_head _ _ _ _ _ (by simp [auOf]) (by simp [auOf])
    have hdt : dataB (pencB C (auOf 2 (markB k.id seq))) = markB k.id seq := by rw [penc_form h2e, dataB_head, auOf_data hd]
    have hW : signW (pencB C au00) k seq = pencB C (auOf 2 (markB k.id seq)) ++ keyedB k.sec (pencB C (auOf 2 (markB k.id seq))) := by unfold signW; rw [if_neg (by omega), signDg_enc h]
    have hdl := length_keyedB k.sec (pencB C (auOf 2 (markB k.id seq)))
    have hlen := enc_len h2e
    generalize hEd : pencB C (auOf 2 (markB k.id seq)) = E at *
    generalize hdg : keyedB k.sec E = dg at *
    have hL := len_left dg R.len R.least R.told
    have hT : pTold (E ++ dg) = (E.length : Nat) := (told_left dg R.least).trans R.told
    obtain ⟨d1, d2, d3⟩ := dec_left R (by simp [auOf]) dg
    refine ⟨_, _, hE, hB.trans hW, open_other hL ach_nil (by rw [kind_left dg R.least, hkb]; show (2 : Int) ≠ 0; decide) now, hJ, ?_, by rw [List.length_append, hdl]; have := R.small; omega, fun ht => ?_, d1, d2, d3, by rw [h2]; rfl, oa⟩
    · intro z hz
      rcases List.mem_append.1 hz with hz | hz
      · exact R.bt z hz
      · rw [← hdg] at hz; exact keyedB_byte _ _ z hz
    have hdd : openDgE (E ++ dg) ((E.length : Nat) : Int) (markB k.id seq) ks now = 0 := by
      have hany : digAny ks now (E ++ dg) ((E.length : Nat) : Int) k.id = true := by
        unfold digAny
        rw [List.any_eq_true]
        refine ⟨k, hkm, ?_⟩
        unfold digK
        rw [Int.toNat_natCast, List.drop_left, List.take_left, hdg]
        simp [ht]
      unfold openDgE
      rw [markId_markB, markSeq_markB hs.1 hs.2, if_neg (by simp), if_neg (by rw [List.length_append, hdl]; simp), if_pos hany]
    have hO : openE (E ++ dg) ks now = 0 := by
      rw [openE_len hL]
      unfold openE0
      rw [if_neg (fun e => e ha), kind_left dg R.least, data_left dg R.least, hkb, hdt, hT, if_neg (by rw [← hkind, h2]; simp), if_neg (by decide), if_pos rfl]
      exact hdd
    refine ⟨hO, ?_, fun _ => ?_⟩
    · unfold openN
      rw [if_pos hO, hT, hlen, enc_len h]
    · unfold openS
      rw [if_pos hO]
      unfold openS0
      rw [if_neg (fun e => e ha), kind_left dg R.least, data_left dg R.least, hkb, hdt, hT, if_neg (by rw [← hkind, h2]; simp), if_neg (by decide), if_pos rfl]
      unfold openDgS
      rw [if_pos hdd, markSeq_markB hs.1 hs.2]
/-- No key: nothing is signed. -/
structure BackNil (b : List Int) (now seq : Int) : Prop where
  sE : signE b [] now = 0
  sB : signB b [] now seq = b
  h : openE b [] now = 0
  s : openS b [] now = 0
  n : openN b [] now = (b.length : Nat)
theorem back_nil {C : PkC} (ok : C.Ok) (h : pencE C au00 = 0) (now seq : Int) : BackNil (pencB C au00) now seq := by
  have hu := uns_enc ok h
  have R := pround ok au00_ok h
  have hk0 : kindB (pencB C au00) = 0 := by rw [penc_form h]; exact kindB_head _ _ _ _ _ (by decide) (by decide)
  have hE : signE (pencB C au00) [] now = 0 := by unfold signE; rw [if_neg (fun e => e hu), if_pos (by rfl)]
  have hO : openE (pencB C au00) [] now = 0 := by
    rw [openE_len R.len]
    unfold openE0
    rw [if_neg (fun e => e ach_nil), hk0, if_neg (by show ¬ ((0 : Int) ≠ 0); decide), if_neg (by decide), if_neg (by decide)]
    unfold wholeE
    rw [R.told, if_neg (by omega), R.right (by decide), if_neg (by decide)]
  refine ⟨hE, ?_, hO, ?_, ?_⟩
  · unfold signB
    rw [if_neg (fun e => e hE)]
    rfl
  · unfold openS
    rw [if_pos hO]
    unfold openS0
    rw [if_neg (fun e => e ach_nil), hk0, if_neg (by show ¬ ((0 : Int) ≠ 0); decide), if_neg (by decide), if_neg (by decide)]
  · unfold openN
    rw [if_pos hO, R.told]
end Go.Proofs.YtjjgbcjgmjggnaaGreat

namespace Go.Proofs.YtjjgbcjgmjggnaaGreat
open Go.RowKit
set_option linter.unusedVariables false
set_option maxRecDepth 100000

structure EqW (rs ss : List Int) (w : World) (k : Nat) (wr : World) : Prop where
  le : k ≤ rs.length
  same : ∀ j, j < k → rs.getD j 0 = ss.getD j 0
  w : ∃ nd, wr = w.drewN nd
theorem eqw_end {rs ss : List Int} (hl : rs.length = ss.length) (h : ∀ j, j < rs.length → rs.getD j 0 = ss.getD j 0) : rs = ss := by
  apply List.ext_getElem hl
  intro i h1 h2
  have := h i h1
  simpa [List.getD, List.getElem?_eq_getElem h1, List.getElem?_eq_getElem h2] using this
theorem eqw_not {rs ss : List Int} {k : Nat} (h : ¬ rs.getD k 0 = ss.getD k 0) : decide (rs = ss) = false := by
  rw [decide_eq_false_iff_not]
  intro e
  exact h (by rw [e])
set_option maxHeartbeats 1000000 in
theorem eqb_any (va vb : Value) (rs ss : List Int) (w : World) (hl : rs.length = ss.length) (ha : RowAt w va rs) (hb : RowAt w vb ss) (b : Bool) (hbb : decide (rs = ss) = b) :
    Calls Tryz.prog 16 #[va, vb] w fun e w' => e = .returned (.bool b) ∧ Touch (fun _ => False) w w' := by
  obtain ⟨aa, ca, rfl, hm⟩ := rowAt_form ha
  obtain ⟨ab, cb, rfl, _⟩ := rowAt_form hb
  rw [← hl] at hb ⊢
  unfold maxLen at hm
  have HL : Hid (rs.length = ss.length) := hl
  have HB : Hid (decide (rs = ss) = b) := hbb
  clear hl hbb
  go_enter Tryz.func16, Tryz.ntmps16
  go_wp2
  go_loopw [5] (fun i wr => ∃ k : Nat, i = .int .i64 k ∧ EqW rs ss w k wr) (fun i _ => rs.length - (intOf i).toNat)
  case atStart => exact ⟨0, rfl, Nat.zero_le _, fun j hj => by omega, 0, rfl⟩
  case round =>
    obtain ⟨k, rfl, E⟩ := hrel
    obtain ⟨nd, rfl⟩ := E.w
    have hk := E.le
    have HE : Hid _ := E.same
    clear E
    by_cases hlt : k < rs.length
    · obtain ⟨ga, oa, rfl⟩ := rowAt_some ha (by omega)
      obtain ⟨gb, ob, rfl⟩ := rowAt_some hb (by omega)
      have hca := rowAt_cell ha k hlt
      have hcb := rowAt_cell hb k (by rw [← HL.out]; exact hlt)
      by_cases hq : rs.getD k 0 = ss.getD k 0
      · have HQ : Hid (rs.getD k 0 = ss.getD k 0) := hq
        rw [← hq] at hcb
        obtain ⟨z, hz⟩ : ∃ z, z = rs.getD k 0 := ⟨_, rfl⟩
        rw [← hz] at hca hcb
        clear hz ha hb hq
        go_wp2
        go_quiet (fail)
        go_wp2
        go_roundw
        case rel => exact ⟨k + 1, by go_num, by omega, fun j hj => by
          by_cases e : j = k
          · rw [e]; exact HQ.out
          · exact HE.out j (by omega), _, rfl⟩
        case measure => simp [intOf]; omega
      · have hf := eqw_not hq
        have hbf : b = false := by rw [← HB.out]; exact hf
        subst hbf
        obtain ⟨z, hz⟩ : ∃ z, z = rs.getD k 0 := ⟨_, rfl⟩
        obtain ⟨y, hy⟩ : ∃ y, y = ss.getD k 0 := ⟨_, rfl⟩
        rw [← hz, ← hy] at hq
        rw [← hz] at hca
        rw [← hy] at hcb
        have hq' : (z == y) = false := by simpa using hq
        clear hz hy ha hb hq hf
        go_wp2
        go_quiet (fail)
        go_wp2
        go_ret
        exact ⟨rfl, ((Touch.refl _ _).drewN _).drewN _⟩
    · have e := eqw_end HL.out (fun j hj => HE.out j (by omega))
      have hbt : b = true := by rw [← HB.out]; simpa using e
      subst hbt
      clear e
      go_wp2
      go_ret
      exact ⟨rfl, (Touch.refl _ _).drewN _⟩
end Go.Proofs.YtjjgbcjgmjggnaaGreat

namespace Go.Proofs.YtjjgbcjgmjggnaaGreat
open Go.RowKit
set_option linter.unusedVariables false
set_option maxRecDepth 100000

structure Two8 (w0 w : World) (vx vy : Value) (lx ly : List Int) : Prop where
  x : Buf w0 w vx lx
  y : Buf w0 w vy ly
  ne : ∀ k, vx.ownBlock = some k → ¬ vy.ownBlock = some k
theorem Two8.keep {w0 w w' : World} {vx vy : Value} {lx ly : List Int} (h : Two8 w0 w vx vy lx ly) (t : Touch (fun _ => False) w w') : Two8 w0 w' vx vy lx ly := ⟨h.x.keep t, h.y.keep t, h.ne⟩
section
variable {ops : Array Oper} {rest : List Oper} {o : Oper} {a : Act} {Q : Exit → Act → World → Prop} {w : World}
end
end Go.Proofs.YtjjgbcjgmjggnaaGreat
