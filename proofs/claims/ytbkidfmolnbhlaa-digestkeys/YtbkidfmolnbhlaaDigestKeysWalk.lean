/- The walk of DigestKeys. -/
import Derived.Test.YtbkidfmolnbhlaaDigLives
import Derived.Test.YtbkidfmolnbhlaaDigKeyed
import Derived.Deep.RegionHeld3
import Derived.Deep.MidRow
import Derived.Deep.LoopGhost
namespace Go.Proofs.Ytbkidfmolnbhlaa
open Go.RowKit
set_option linter.unusedVariables false
set_option maxRecDepth 100000

set_option maxHeartbeats 1000000 in
theorem copy_buf (v : Value) (rs : List Int) (w : World) (h : ArgAt w v rs) (hcap : rs.length ≤ 1099511627776) :
    Calls Try.prog 16 #[v] w fun e w' => ∃ v', e = .returned v' ∧ Buf w w' v' rs := by
  go_enter Try.func16, Try.ntmps16
  go_wp2_with (at_builtin; refine app_arg rfl (.tmp 4) (.tmp 5) rfl w _ [] rfl (Buf.nil (Touch.refl _ w)) _ rs rfl h (by simpa using hcap) ?_; intro v' w' hb)
  go_ret
  exact ⟨_, rfl, by simpa using hb⟩
section
variable {ops : Array Oper} {rest : List Oper} {o : Oper} {a : Act} {Q : Exit → Act → World → Prop} {w : World}
/-- append(p, x...): and nothing but p's own block has turned. -/
theorem app_argT (hgd : o.guard = none) (s x : Operand) (ho : o.op = .call { callee := .builtin .append, args := #[s, x], argTypes := #[22, 22] })
    (w0 : World) (v : Value) (l : List Int) (hs : a.eval s = v) (hb : Buf w0 w v l) (vx : Value) (r : List Int) (hx : a.eval x = vx) (hr : ArgAt w vx r) (hl : l.length + r.length ≤ 1099511627776)
    (h : ∀ v' w', Buf w0 w' v' (l ++ r) → Touch (fun k => v.ownBlock = some k) w w' → wpList Try.prog ops Q rest (a.put o.dst v') w') : wpList Try.prog ops Q (o :: rest) a w := by
  obtain ⟨i0, hi, hz0, hz1, hz2⟩ := info_parts Try.info5w
  rcases hr with ⟨rfl, rfl⟩ | ⟨ad, c, rfl, h1, h2, h3⟩
  · refine wpList_append_own_none hgd s x 22 ho w0.heap.size 5 i0 1 Try.underlying22 hi v l.length (bytesOf l) hs hb.own hx ?_
    exact h v w (by rw [List.append_nil]; exact hb) (Touch.refl _ _)
  · refine wpList_append_own_at w hgd s x 22 ho w0.heap.size 5 i0 (.int .u8 0) 1 1 Try.underlying22 hi hz0 hz1 hz2 rfl (by decide) v l.length (bytesOf l) hs hb.own ad r.length c (bytesOf r) hx (by simp [length_bytesOf]) h3 (oneCell_bytesOf r) (by unfold maxLen; omega) (by omega) hb.t.size ?_
    intro v' w' hown hg _ _
    exact h v' w' (hb.appended hown hg) ((Touch.refl _ w).grown hg (fun k hk => Or.inl hk))
end
theorem key_cut (k : List Nat) : (k ++ List.replicate (16 - k.length) 0).take 16 = keyN k := by
  unfold keyN
  rw [List.take_append, List.take_replicate]
  congr 2
  omega

set_option maxHeartbeats 2000000 in
theorem keys_long (v vk : Value) (ns ks : List Nat) (m : Int) (w : World) (hv : ArgAt w v (natB ns)) (hk : ArgAt w vk (natB ks)) (h : 16384 < ns.length ∨ 16384 < ks.length) :
    Calls Try.prog 5 #[v, vk, .int .u8 m] w fun e w' => e = .returned (.bool true) ∧ Touch (fun _ => False) w w' := by
  obtain ⟨aa, ac, rfl, -⟩ := hv.form
  obtain ⟨ba, bc, rfl, -⟩ := hk.form
  rw [length_natB, length_natB]
  by_cases h1 : 16384 < ns.length
  · have h' : (16384 : Int) < (ns.length : Int) := by omega
    clear hv hk h h1
    go_enter Try.func5, Try.ntmps5
    go_wp2_with fail
    refine (lives_any _).mono ?_
    rintro e w1 ⟨rfl, t1⟩
    go_wp2
    go_ret
    exact ⟨rfl, t1⟩
  · have h' : ¬ (16384 : Int) < (ns.length : Int) := by omega
    have h2 : (16384 : Int) < (ks.length : Int) := by omega
    clear hv hk h h1
    go_enter Try.func5, Try.ntmps5
    go_wp2_with fail
    refine (lives_any _).mono ?_
    rintro e w1 ⟨rfl, t1⟩
    go_wp2
    go_ret
    exact ⟨rfl, t1⟩

theorem rng_keep {w w' : World} {b o : Nat} {cs : List Value} (h : w.rangeAt b o cs) (t : Touch (fun _ => False) w w') : w'.rangeAt b o cs := fun j v hv => t.cellN (h j v hv)
def KyZ (w0 : World) (l : List Nat) (g : Nat) (p : Value) (wr : World) : Prop := ∃ z : Nat, z + g = 16 - l.length ∧ Buf w0 wr p (natB (l ++ List.replicate z 0))
set_option maxHeartbeats 4000000 in
theorem keys_short (v vk : Value) (ns ks : List Nat) (m : Nat) (w : World) (hv : ArgAt w v (natB ns)) (hk : ArgAt w vk (natB ks)) (hby : ∀ x ∈ ns, x < 256) (hbk : ∀ x ∈ ks, x < 256) (hm : m < 256) (hl1 : ns.length ≤ 16384) (hl2 : ks.length ≤ 16384) :
    Calls Try.prog 5 #[v, vk, .int .u8 (m : Int)] w fun e w' => e = .returned (.bool true) ∧ Touch (fun _ => False) w w' := by
  obtain ⟨aa, ac, rfl, -⟩ := hv.form
  obtain ⟨ba, bc, rfl, -⟩ := hk.form
  rw [length_natB] at hv hk
  rw [length_natB, length_natB]
  have HCk : Hid (∀ w', Touch (fun _ => False) w w' → Calls Try.prog 16 #[.slice ba ks.length bc] w' fun e w'' => ∃ v', e = .returned v' ∧ Buf w' w'' v' (natB ks)) := fun w' t => copy_buf _ (natB ks) w' (hk.keep t (fun _ _ h => h)) (by rw [length_natB]; omega)
  have HCb : Hid (∀ w', Touch (fun _ => False) w w' → Calls Try.prog 16 #[.slice aa ns.length ac] w' fun e w'' => ∃ v', e = .returned v' ∧ Buf w' w'' v' (natB ns)) := fun w' t => copy_buf _ (natB ns) w' (hv.keep t (fun _ _ h => h)) (by rw [length_natB]; omega)
  have HKy : Hid (∀ v1 v2 ls w', ArgAt w' v1 (natB ls) → ArgAt w' v2 (natB ns) → (∀ x ∈ ls, x < 256) → keyN ls = keyN ks → Calls Try.prog 9 #[v1, v2] w' fun e w'' => e = .returned (.agg (bytesOf (natB (keyedN ks ns))).toArray) ∧ Touch (fun _ => False) w' w'') := fun v1 v2 ls w' h1 h2 hb he => by
    have := keyed_any v1 v2 ls ns w' h1 h2 hb hby (by omega)
    rwa [show keyedN ls ns = keyedN ks ns by unfold keyedN; rw [he]] at this
  have HOf : Hid (∀ v1 w', ArgAt w' v1 (natB (ns ++ keyN ks)) → Calls Try.prog 8 #[v1] w' fun e w'' => e = .returned (.agg (bytesOf (natB (keyedN ks ns))).toArray) ∧ Touch (fun _ => False) w' w'') := fun v1 w' h1 =>
    of_any v1 (ns ++ keyN ks) w' h1 (fun x hx => by
      rcases List.mem_append.mp hx with hx | hx
      · exact hby x hx
      · exact keyN_byte hbk x hx) (by rw [List.length_append, length_keyN]; omega)
  have heq := eq16 (keyedN ks ns) (outN_byte _) (length_outN _)
  have hOl' : (bytesOf (natB (keyedN ks ns))).length = 16 := by rw [length_bytesOf, length_natB]; exact length_outN _
  have hO1 := oneCell_bytesOf (natB (keyedN ks ns))
  generalize bytesOf (natB (keyedN ks ns)) = O at HKy HOf heq hOl' hO1
  have h' : ¬ (16384 : Int) < (ns.length : Int) := by omega
  have h2 : ¬ (16384 : Int) < (ks.length : Int) := by omega
  have HBk : Hid (∀ x ∈ ks, x < 256) := hbk
  clear hv hk hby hbk
  go_enter Try.func5, Try.ntmps5
  go_wp2_with fail
  refine (HCk.out w (Touch.refl _ _)).mono ?_
  rintro e w1 ⟨p1, rfl, b1⟩
  have HB1 : Hid (Buf w w1 p1 (natB ks)) := b1
  clear b1
  go_wp2_with fail
  refine (HCb.out w1 HB1.out.t).mono ?_
  rintro e w2 ⟨p2, rfl, b2⟩
  have HB2 : Hid (Buf w1 w2 p2 (natB ns)) := b2
  have HT2 : Hid (Touch (fun _ => False) w w2) := HB1.out.t.trans b2.t
  clear b2
  go_wp2_with fail
  refine (HKy.out p1 p2 ks w2 (HB1.out.keep HB2.out.t).arg HB2.out.arg HBk.out rfl).mono ?_
  rintro e w3 ⟨rfl, t3⟩
  have HT3 : Hid (Touch (fun _ => False) w w3) := HT2.out.trans t3
  clear t3 HB1 HB2 HT2
  go_wp2_with (refine wpList_store_row rfl 25 (.tmp 7) (.tmp 23) rfl w3.heap.size O.toArray rfl rfl 25 _ (row_new w3 25 _) (by rw [Try.info16, List.size_toArray, hOl']) (by simp [hOl']) (all_oneCell hO1) ?_)
  generalize hw4 : World.setRow (World.alloc w3 _) _ _ = w4
  have HT4 : Hid (Touch (fun _ => False) w w4) := by subst hw4; exact Touch.setRow (HT3.out.alloc _) (Or.inr HT3.out.size) _
  have HR4 : Hid (Row w4 w3.heap.size 25 O) := by subst hw4; exact (row_new w3 25 _).setRow O.toArray
  generalize w3.heap.size = g7 at HR4 ⊢
  clear hw4 HT3
  refine (HCk.out w4 HT4.out).mono ?_
  rintro e w5 ⟨p5, rfl, b5⟩
  have HZ : Hid (KyZ w4 ks (16 - ks.length) p5 w5) := ⟨0, by omega, by simpa using b5⟩
  clear b5 HCk
  go_wp2_with fail
  go_loopg [8] (16 - ks.length) (fun g p wx => KyZ w4 ks g p wx)
  case atStart => exact HZ.out
  case round =>
    clear HZ
    obtain ⟨z, hz, hb⟩ := hrel
    have hlen : (natB (ks ++ List.replicate z 0)).length = ks.length + z := by rw [length_natB]; simp
    obtain ⟨pa, pc, hp⟩ := hb.form
    subst hp
    have HB : Hid (Buf w4 wr (.slice pa (natB (ks ++ List.replicate z 0)).length pc) (natB (ks ++ List.replicate z 0))) := hb
    clear hb
    by_cases hlt : z < 16 - ks.length
    · have HLL : Hid ((natB (ks ++ List.replicate z 0)).length = ks.length + z) := hlen
      generalize (natB (ks ++ List.replicate z 0)).length = L at hlen HB ⊢
      have hL : (L : Int) < 16 := by omega
      clear hlen
      go_wp2_with (at_builtin; refine app_one rfl (.tmp 29) (.tmp 30) rfl w4 _ _ rfl HB.out 0 rfl (by rw [HLL.out]; omega) ?_; intro p6 w6 hb6)
      go_roundg (16 - ks.length - (z + 1))
      case measure => omega
      case rel => exact ⟨z + 1, by omega, by rw [List.replicate_succ', ← List.append_assoc, ← natB_one]; exact hb6⟩
    · obtain rfl : z = 16 - ks.length := by omega
      obtain ⟨LL, hLL⟩ : ∃ LL, LL = ks ++ List.replicate (16 - ks.length) 0 := ⟨_, rfl⟩
      rw [← hLL] at HB hlen ⊢
      rw [length_natB] at HB hlen ⊢
      have hL16 : 16 ≤ LL.length := by omega
      have hLm : LL.length ≤ 16400 := by omega
      have HCut : Hid (LL.take 16 = keyN ks) := by rw [hLL]; exact key_cut ks
      have HLong : Hid (∀ r, keyN (LL ++ r) = keyN ks) := fun r => by rw [hLL, List.append_assoc]; exact keyN_long ks r
      have HLb : Hid (∀ x ∈ LL, x < 256) := by
        intro x hx
        rw [hLL] at hx
        rcases List.mem_append.mp hx with hx | hx
        · exact HBk.out x hx
        · have := (List.mem_replicate.mp hx).2
          omega
      have hL : ¬ (LL.length : Int) < 16 := by omega
      have HTr : Hid (Touch (fun _ => False) w wr) := HT4.out.trans HB.out.t
      have HRr : Hid (Row wr g7 25 O) := HR4.out.keep HB.out.t
      have HS4 : Hid (w.heap.size ≤ w4.heap.size) := HT4.out.size
      have HG4 : Hid (g7 < w4.heap.size) := HR4.out.lt
      clear hLL hlen hlt hz HT4 HR4 HBk
      go_wp2_with fail
      refine (HCb.out wr HTr.out).mono ?_
      rintro e w6 ⟨p6, rfl, b6⟩
      have HB6 : Hid (Buf wr w6 p6 (natB ns)) := b6
      have HL6 : Hid (Buf w4 w6 (.slice pa LL.length pc) (natB LL)) := HB.out.keep b6.t
      clear b6
      obtain ⟨v1, v2, hs1, hs2, ha1, ha2, hown⟩ := cut_two HL6.out.arg 16 hL16
      have HA1 : Hid (ArgAt w6 v1 (natB (LL.take 16))) := ha1
      replace hs1 : ∀ w, Sem.run Try.prog (Instr.slice 22 (.slice pa LL.length pc) none (some (.int .i64 16)) none) w = .ok v1 w := hs1
      clear hs2 ha1 ha2 hown
      go_wp2_with (first | (at_builtin; refine app_arg rfl (.tmp 34) (.tmp 36) rfl wr _ (natB ns) rfl HB6.out _ (natB (LL.take 16)) rfl HA1.out (by rw [length_natB, length_natB]; simp; omega) ?_; intro p7 w7 b7) | (at_builtin; refine app_argT rfl (.tmp 38) (.tmp 41) rfl w4 _ (natB LL) rfl (HB.out.keep (b7.t.trans ((Touch.refl _ w7).alloc _))) _ [(m : Int), (m : Int)] rfl (lit_arg w7 [(m : Int), (m : Int)] #[.int .u8 (m : Int), .int .u8 (m : Int)] rfl (by simp)) (by rw [length_natB]; simp; omega) ?_; intro p8 w8 b8 t8))
      have HL8 : Hid (Buf w4 w8 p8 (natB (LL ++ [m, m]))) := by
        rw [natB_append]
        exact b8
      have HLk : Hid (keyN (LL ++ [m, m]) = keyN ks) := HLong.out _
      have HLy : Hid (∀ x ∈ LL ++ [m, m], x < 256) := by
        intro x hx
        rcases List.mem_append.mp hx with hx | hx
        · exact HLb.out x hx
        · simp at hx
          omega
      have HW8 : Hid (ArgAt w8 p7 (natB (ns ++ keyN ks))) := by
        have k : RowAt (w7.alloc (.cells #[.int .u8 (m : Int), .int .u8 (m : Int)] 5)) p7 (natB (ns ++ keyN ks)) := by
          have k0 := (b7.keep ((Touch.refl _ w7).alloc (.cells #[.int .u8 (m : Int), .int .u8 (m : Int)] 5))).row
          rw [HCut.out, ← natB_append] at k0
          exact k0
        refine (k.touch t8 (fun j hj e => ?_)).arg
        have h1 := (b7.own.lt j hj).1
        have h2 := (HB.out.own.lt j e).2
        omega
      have HT8 : Hid (Touch (fun _ => False) w w8) := by
        refine (HTr.out.trans (b7.t.alloc _)).trans' t8 (fun i hi e => ?_)
        have h1 := (HB.out.own.lt i e).1
        have h2 := HS4.out
        omega
      have HR8 : Hid (Row w8 g7 25 O) := by
        have k := HRr.out.keep (b7.t.alloc (.cells #[.int .u8 (m : Int), .int .u8 (m : Int)] 5))
        refine (t8.block g7 k.lt (fun e => ?_)).trans k
        have h1 := (HB.out.own.lt g7 e).1
        have h2 := HG4.out
        omega
      clear b7 b8 t8 HB HB6 HL6 HA1 hs1 HTr HRr HS4 HG4 HLb HLong HCut
      have hS : w8.rangeAt g7 0 O := fun j u hj => by rw [Nat.zero_add, HR8.out.cell j]; exact hj
      have hi16 : (Try.prog.info? 25).map (·.size) = some O.length := by rw [Try.info16, hOl']
      have hu16 := Try.underlying25
      have hS0 : w8.drew.rangeAt g7 0 O := rng_keep hS ((Touch.refl _ _).drew)
      go_wp2_with fail
      refine wp_region_held_drew (S := fun w' => w'.rangeAt g7 0 O) (by kernel_rfl) hS0 (fun hHeld => ?_)
      refine wpAnyH_take (i := 0) (oi := ⟨some 43, _, _, _, _, _⟩) (v := p8) rfl (by kernel_rfl) (by kernel_rfl) (by kernel_rfl) (fun _ _ _ h => h) (Or.inl ⟨by rfl, fun w hw => by go_simp⟩) (by assumption) ?_
      simp only [Act.put, List.setIfInBounds_toArray, List.set_cons_zero, List.set_cons_succ]
      refine wpAnyH_take (i := 1) (oi := ⟨some 44, _, _, _, _, _⟩) (v := .slice aa ns.length ac) rfl (by kernel_rfl) (by kernel_rfl) (by kernel_rfl) (fun _ _ _ h => h) (Or.inl ⟨by rfl, fun w hw => by go_simp⟩) (by assumption) ?_
      simp only [Act.put, List.setIfInBounds_toArray, List.set_cons_zero, List.set_cons_succ]
      refine wpAnyH_take (i := 4) (oi := ⟨some 47, _, _, _, _, _⟩) (v := .agg O.toArray) rfl (by kernel_rfl) (by kernel_rfl) (by kernel_rfl) (fun _ _ _ h => h) (yieldsIf_load_mid (by rfl) _ _ rfl _ _ rfl _ _ (fun w h => h) hu16 rfl hi16) (by assumption) ?_
      simp only [Act.put, List.setIfInBounds_toArray, List.set_cons_zero, List.set_cons_succ]
      refine wpAnyH_ready (rs := [2]) (by kernel_rfl) (by simp) ?_
      refine AllReadyH.cons rfl (fun K hK => ?_) AllReadyH.nil
      go_simp
      go_wp2_with (go_at_call 16; refine (HCb.out w8.drew HT8.out.drew).mono ?_; rintro e w9 ⟨p9, rfl, b9⟩; have q9 := rng_keep hS0 b9.t)
      refine hK.out _ _ q9 (fun hHeld => ?_)
      clear hK K
      refine wpAnyH_ready (rs := [3]) (by kernel_rfl) (by simp) ?_
      refine AllReadyH.cons rfl (fun K hK => ?_) AllReadyH.nil
      go_simp
      go_wp2_with (go_at_call 9; refine (HKy.out p8 p9 (LL ++ [m, m]) w9 (HL8.out.keep ((Touch.refl _ _).drew.trans b9.t)).arg b9.arg HLy.out HLk.out).mono ?_; rintro e w10 ⟨rfl, t10⟩; have q10 := rng_keep q9 t10)
      refine hK.out _ _ q10 (fun hHeld => ?_)
      clear hK K
      refine wpAnyH_take (i := 5) (oi := ⟨some 48, _, _, _, _, _⟩) (v := .bool true) rfl (by kernel_rfl) (by kernel_rfl) (by kernel_rfl) (fun _ _ _ h => h) (Or.inl ⟨by rfl, fun w hw => by go_simp⟩) (by assumption) ?_
      simp only [Act.put, List.setIfInBounds_toArray, List.set_cons_zero, List.set_cons_succ]
      refine wpAnyH_take (i := 6) (oi := ⟨some 49, _, _, _, _, _⟩) (v := .bool true) rfl (by kernel_rfl) (by kernel_rfl) (by kernel_rfl) (fun _ _ _ h => h) (Or.inl ⟨by rfl, fun w hw => by go_simp⟩) (by assumption) ?_
      simp only [Act.put, List.setIfInBounds_toArray, List.set_cons_zero, List.set_cons_succ]
      refine wpAnyH_take (i := 7) (oi := ⟨some 50, _, _, _, _, _⟩) (v := p7) rfl (by kernel_rfl) (by kernel_rfl) (by kernel_rfl) (fun _ _ _ h => h) (Or.inl ⟨by rfl, fun w hw => by go_simp⟩) (by assumption) ?_
      simp only [Act.put, List.setIfInBounds_toArray, List.set_cons_zero, List.set_cons_succ]
      refine wpAnyH_take (i := 9) (oi := ⟨some 52, _, _, _, _, _⟩) (v := .agg O.toArray) rfl (by kernel_rfl) (by kernel_rfl) (by kernel_rfl) (fun _ _ _ h => h) (yieldsIf_load_mid (by rfl) _ _ rfl _ _ rfl _ _ (fun w h => h) hu16 rfl hi16) (by assumption) ?_
      simp only [Act.put, List.setIfInBounds_toArray, List.set_cons_zero, List.set_cons_succ]
      refine wpAnyH_ready (rs := [8]) (by kernel_rfl) (by simp) ?_
      refine AllReadyH.cons rfl (fun K hK => ?_) AllReadyH.nil
      go_simp
      go_wp2_with (go_at_call 8; refine (HOf.out p7 w10 (HW8.out.keep ((Touch.refl _ _).drew.trans (b9.t.trans t10)) (fun _ _ h => h))).mono ?_; rintro e w11 ⟨rfl, t11⟩; have q11 := rng_keep q10 t11)
      refine hK.out _ _ q11 (fun hHeld => ?_)
      clear hK K
      refine wpAnyH_take (i := 10) (oi := ⟨some 53, _, _, _, _, _⟩) (v := .bool true) rfl (by kernel_rfl) (by kernel_rfl) (by kernel_rfl) (fun _ _ _ h => h) (Or.inl ⟨by rfl, fun w hw => by go_simp⟩) (by assumption) ?_
      simp only [Act.put, List.setIfInBounds_toArray, List.set_cons_zero, List.set_cons_succ]
      refine wpAnyH_take (i := 11) (oi := ⟨some 54, _, _, _, _, _⟩) (v := .bool true) rfl (by kernel_rfl) (by kernel_rfl) (by kernel_rfl) (fun _ _ _ h => h) (Or.inl ⟨by rfl, fun w hw => by go_simp⟩) (by assumption) ?_
      simp only [Act.put, List.setIfInBounds_toArray, List.set_cons_zero, List.set_cons_succ]
      refine wpAnyH_take (i := 12) (oi := ⟨some 55, _, _, _, _, _⟩) (v := .bool true) rfl (by kernel_rfl) (by kernel_rfl) (by kernel_rfl) (fun _ _ _ h => h) (Or.inl ⟨by rfl, fun w hw => by go_simp⟩) (by assumption) ?_
      simp only [Act.put, List.setIfInBounds_toArray, List.set_cons_zero, List.set_cons_succ]
      refine wpAnyH_ready (rs := [13]) (by kernel_rfl) (by simp) ?_
      refine AllReadyH.cons rfl (fun K hK => ?_) AllReadyH.nil
      go_simp
      go_wp2_with (go_at_call 6; refine (lives_any w11).mono ?_; rintro e w12 ⟨rfl, t12⟩; have q12 := rng_keep q11 t12)
      refine hK.out _ _ q12 (fun hHeld => ?_)
      clear hK K
      refine wpAnyH_take (i := 14) (oi := ⟨some 57, _, _, _, _, _⟩) (v := .bool true) rfl (by kernel_rfl) (by kernel_rfl) (by kernel_rfl) (fun _ _ _ h => h) (Or.inl ⟨by rfl, fun w hw => by go_simp⟩) (by assumption) ?_
      simp only [Act.put, List.setIfInBounds_toArray, List.set_cons_zero, List.set_cons_succ]
      refine wpAnyH_take (i := 15) (oi := ⟨some 6, _, _, _, _, _⟩) (v := .bool true) rfl (by kernel_rfl) (by kernel_rfl) (by kernel_rfl) (fun _ _ _ h => h) (Or.inl ⟨by rfl, fun w hw => by go_simp⟩) (by assumption) ?_
      simp only [Act.put, List.setIfInBounds_toArray, List.set_cons_zero, List.set_cons_succ]
      refine wpAnyH_done (by kernel_rfl) ?_ _
      go_wp2_with fail
      go_ret
      exact ⟨rfl, HT8.out.drew.trans (b9.t.trans (t10.trans (t11.trans t12)))⟩

theorem keys_any (v : Value) (rs : List Int) (vk : Value) (rk : List Int) (m : Int) (w : World) (hv : ArgAt w v rs) (hx : ∀ x ∈ rs, 0 ≤ x ∧ x < 256) (hk : ArgAt w vk rk) (hy : ∀ x ∈ rk, 0 ≤ x ∧ x < 256) (hm : (Lit.int .u8 m).wf = true) :
    Calls Try.prog 5 #[v, vk, .int .u8 m] w fun e w' => e = .returned (.bool true) ∧ Touch (fun _ => False) w w' := by
  obtain ⟨ns, rfl, h1⟩ := natB_of hx
  obtain ⟨ks, rfl, h2⟩ := natB_of hy
  by_cases h : 16384 < ns.length ∨ 16384 < ks.length
  · exact keys_long v vk ns ks m w hv hk h
  · have hb := bounds_u8 hm
    obtain ⟨k, rfl⟩ : ∃ k : Nat, m = k := ⟨m.toNat, by omega⟩
    exact keys_short v vk ns ks k w hv hk h1 h2 (by omega) (by omega) (by omega)
end Go.Proofs.Ytbkidfmolnbhlaa
