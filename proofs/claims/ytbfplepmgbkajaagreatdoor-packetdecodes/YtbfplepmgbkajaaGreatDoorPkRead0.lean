/- Package packet's reader: prreq. -/
import Derived.Test.YtbfplepmgbkajaaGreatDoorPkRp
import Derived.Deep.RegionHeld2
import Derived.Deep.DeepCutAuto
import Derived.Test.YtbfplepmgbkajaaGreatDoorPkHd
import Derived.Test.YtbfplepmgbkajaaGreatDoorPkRpD
import Derived.Test.YtbfplepmgbkajaaGreatDoorPkRu
namespace Go.Proofs.YtbfplepmgbkajaaGreatDoor
open Go.RowKit
set_option linter.unusedVariables false
set_option maxRecDepth 100000

theorem PkRpK_C (P : PV) (rs : List Int) (ht : P.typ = 3) (hl : 24 ≤ rs.length) : ppartC P (rs.drop 24) = ⟨P, [], [], cuts 12 rdKey (rs.drop 24), [], []⟩ := by
 unfold ppartC
 rw [if_neg (by omega), if_neg (by omega), if_pos ht]
theorem part24 {P : PV} {rs : List Int} (ht : P.typ = 3) (hi : (rs.length - 24) % 12 = 0) (hk : ∃ k ∈ cuts 12 rdKey (rs.drop 24), 255 < k.typ) : ppartE P.typ (rs.drop 24) = 24 := by
 unfold ppartE
 obtain ⟨k, h1, h2⟩ := hk
 rw [if_neg (by omega), if_neg (by omega), if_pos ht, if_pos (by rw [List.length_drop]; exact hi), if_neg]
 intro h
 have := List.all_eq_true.1 h k h1
 simp at this
 omega
theorem part0 {P : PV} {rs : List Int} (ht : P.typ = 3) (hi : (rs.length - 24) % 12 = 0) (hk : ∀ k ∈ cuts 12 rdKey (rs.drop 24), k.typ ≤ 255) : ppartE P.typ (rs.drop 24) = 0 := by
 unfold ppartE
 rw [if_neg (by omega), if_neg (by omega), if_pos ht, if_pos (by rw [List.length_drop]; exact hi), if_pos]
 refine List.all_eq_true.2 (fun k h1 => ?_)
 simpa using hk k h1

set_option maxHeartbeats 4000000 in
theorem prreq (N b gp : Nat) (P : PV) (rs : List Int) (w : World) (h : Rdr N w b rs (some 24)) (hN : N ≤ gp) (hg : gp < w.heap.size) (pd : Pd w gp P (.slice none 0 0) (.slice none 0 0) (.slice none 0 0) (.slice none 0 0) (.slice none 0 0)) (rm : Room w gp 19) (ht : P.typ = 3) (h24 : 24 ≤ rs.length) (hc : rs.length ≤ 1000000) :
  Calls Tryz.prog 144 #[.agg #[.pointer (some ⟨b, 0, none⟩)], .pointer (some ⟨gp, 0, none⟩)] w (PtP b gp P (rs.drop 24) w) := by
 have hb := h.lt
 have hb0 := h.low
 have hmf : ∀ (fn : Fn) (first cap : Array Value) (w : World), (Instr.makeFunc fn first cap).run Tryz.prog w = .ok (.func fn first cap) w := fun _ _ _ _ => rfl
 obtain ⟨wa, hwa⟩ : ∃ wa, wa = w.alloc (.cells #[.pointer (some ⟨b, 0, none⟩)] 189) := ⟨_, rfl⟩
 have ta : Touch (fun _ => False) w wa := by rw [hwa]; exact (Touch.refl _ w).alloc _
 have ca : wa.cell? ⟨w.heap.size, 0, none⟩ = some (.pointer (some ⟨b, 0, none⟩)) := by rw [hwa]; simp [go_sem]
 have za : wa.heap.size = w.heap.size + 1 := by rw [hwa]; simp
 obtain ⟨Fb, hFb⟩ : ∃ Fb : Nat → Prop, Fb = fun k => k = b ∨ k = gp := ⟨_, rfl⟩
 have fb : ∀ k, k = b → Fb k := by subst hFb; exact fun k hk => Or.inl hk
 have fg : Fb gp := by subst hFb; exact Or.inr rfl
 have fn : ¬ Fb w.heap.size := by subst hFb; show ¬ (_ ∨ _); omega
 have q0 := onl_cell ca fn
 have rd0 : Hid (Rdr N wa b rs (some 24)) := h.keep ta
 have RM : Hid (Room wa gp 19) := rm.keep ta
 have PDa : Hid (Pd wa gp P (.slice none 0 0) (.slice none 0 0) (.slice none 0 0) (.slice none 0 0) (.slice none 0 0)) := pd.keep ta
 have HNa : Hid (N ≤ wa.heap.size) := by show _ ≤ _; omega
 have ZA : Hid (wa.heap.size = w.heap.size + 1) := za
 have nbg : ¬ gp = b := by omega
 have HGP : Hid (gp < w.heap.size) := hg
 have TT : Hid (∀ w', Onl Fb wa w' → Touch (fun k => k = b ∨ k = gp) w w') := by subst hFb; exact fun w' s => (ta.mono (fun _ _ f => f.elim)).trans s.t
 have NOK : Hid (rs.length < 24 → ∀ w', Onl Fb wa w' → PtP b gp P (rs.drop 24) w (.panicked (pflawC 22)) w') := fun hl w' s => ptp_no (by unfold ppartE; simp [ht, List.length_drop]; omega) (by decide) (TT.out w' s)
 have NOI : Hid (24 ≤ rs.length → (rs.length - 24) % 12 ≠ 0 → ∀ w', Onl Fb wa w' → PtP b gp P (rs.drop 24) w (.panicked (pflawC 22)) w') := fun hl hi w' s => ptp_no (by unfold ppartE; simp [ht, List.length_drop]; omega) (by decide) (TT.out w' s)
 have NO24 : Hid ((rs.length - 24) % 12 = 0 → (∃ k ∈ cuts 12 rdKey (rs.drop 24), 255 < k.typ) → ∀ w', Onl Fb wa w' → PtP b gp P (rs.drop 24) w (.panicked (pflawC 24)) w') := fun hi hk w' s => ptp_no (part24 ht hi hk) (by decide) (TT.out w' s)
 have HT : Hid (P.typ = 3) := ht
 have HCC : Hid (24 ≤ rs.length → ppartC P (rs.drop 24) = ⟨P, [], [], cuts 12 rdKey (rs.drop 24), [], []⟩) := fun hl => PkRpK_C P rs ht hl
 clear ta ca za hFb fn h rm pd hN hg hb hb0 ht
 go_enter Tryz.func144, Tryz.ntmps144
 go_upto_region 1 with fail
 rw [← hwa]
 clear hwa
 generalize hG : w.heap.size = g1 at *
 have HG : Hid (w.heap.size = g1) := hG
 clear hG
 have e0 := q0 wa ⟨Touch.refl _ _⟩
 go_wp2_with fail
 refine Calls.mono (pritems12 N b _ rs _ (rd0.out) HNa.out hc) ?_
 intro e w4 h4
 rcases h4.out with ⟨v4, rfl, i4, kk4, r4, o4, t4⟩ | ⟨rfl, i4, t4⟩ | ⟨rfl, i4, k4, t4⟩
 rotate_left
 ·exact ⟨rfl, NOI.out h24 (by omega) _ ⟨t4.mono (fun k _ e => fb k e)⟩⟩
 ·exact ⟨rfl, NO24.out i4 k4 _ ⟨t4.mono (fun k _ e => fb k e)⟩⟩
 have s4 : Onl Fb wa w4 := ⟨t4.mono (fun k _ e => fb k e)⟩
 have u4 : Onl (fun k => k = b) wa w4 := ⟨t4⟩
 have u3 : Onl (fun k => k = b) wa wa := ⟨Touch.refl _ _⟩
 obtain ⟨va, vc, ev⟩ := own_form2 o4
 subst ev
 have m4 : Room w4 gp 19 := RM.out.touch u4.t nbg
 obtain ⟨zz0, zc0, zf0⟩ := m4 16 (by omega)
 clear h4 m4 e0
 have KK4 : Hid (∀ k ∈ cuts 12 rdKey (rs.drop 24), k.typ ≤ 255) := kk4
 have E0 : Hid (24 ≤ rs.length ∧ (rs.length - 24) % 12 = 0) := ⟨by omega, by omega⟩
 have O4 : Hid (w4.ownsRow w.heap.size 125 3 (.slice va (cuts 12 rdKey (rs.drop 24)).length vc) (cuts 12 rdKey (rs.drop 24)).length (keysC (cuts 12 rdKey (rs.drop 24)))) := own_lower o4 (by have h1 := u3.t.size; have h2 := ZA.out; have h3 := HG.out; omega)
 have FIN : Hid (PtP b gp P (rs.drop 24) w (.returned (.tuple #[])) (w4.setCell ⟨gp, 16, none⟩ (.slice va (cuts 12 rdKey (rs.drop 24)).length vc))) := by
  have tz : Touch (fun k => k = gp) w4 (w4.setCell ⟨gp, 16, none⟩ (.slice va (cuts 12 rdKey (rs.drop 24)).length vc)) := by refine Touch.setCell (F := fun k => k = gp) (p := ⟨gp, 16, none⟩) ?_ (Or.inl rfl) _; exact Touch.refl _ _
  have P4 : Pd w4 gp P (.slice none 0 0) (.slice none 0 0) (.slice none 0 0) (.slice none 0 0) (.slice none 0 0) := PDa.out.touch u4.t nbg
  have hne : ∀ k, (Value.slice va (cuts 12 rdKey (rs.drop 24)).length vc).ownBlock = some k → ¬ k = gp := fun k hk e => by have := (O4.out.lt k hk).1; have := HGP.out; have := HG.out; omega
  refine ptp_ok (vn := .slice none 0 0) (vd := .slice none 0 0) (vk := .slice va (cuts 12 rdKey (rs.drop 24)).length vc) (vs := .slice none 0 0) (vh := .slice none 0 0) ?_ (TT.out _ (Onl.set s4 fg _ _)) ?_ ?_ ?_
  ·exact part0 HT.out E0.out.2 KK4.out
  ·rw [HCC.out E0.out.1]
   exact P4.setKeys _
  ·exact (Room.set (RM.out.touch u4.t nbg) 16 _)
  ·rw [HCC.out E0.out.1]
   exact ⟨own_nil _ _ _ _, own_nil _ _ _ _, own_touch O4.out tz hne, statesA_nil _ _, own_nil _ _ _ _, (fun k hk hh => by simp [Value.ownBlock] at hk hh)⟩
 go_wp2
 go_end0
 exact FIN.out
end Go.Proofs.YtbfplepmgbkajaaGreatDoor

namespace Go.Proofs.YtbfplepmgbkajaaGreatDoor
open Go.RowKit
set_option linter.unusedVariables false
set_option maxRecDepth 100000

theorem PkRpA_C (P : PV) (rs : List Int) (ht : P.typ = 5) (hl : 24 ≤ rs.length) : ppartC P (rs.drop 24) = ⟨P, [], [], [], [], cuts 20 rdHead (rs.drop 24)⟩ := by
 unfold ppartC
 rw [if_neg (by omega), if_neg (by omega), if_neg (by omega), if_neg (by omega)]

set_option maxHeartbeats 4000000 in
theorem prack (N b gp : Nat) (P : PV) (rs : List Int) (w : World) (h : Rdr N w b rs (some 24)) (hN : N ≤ gp) (hg : gp < w.heap.size) (pd : Pd w gp P (.slice none 0 0) (.slice none 0 0) (.slice none 0 0) (.slice none 0 0) (.slice none 0 0)) (rm : Room w gp 19) (ht : P.typ = 5) (h24 : 24 ≤ rs.length) (hc : rs.length ≤ 1000000) :
  Calls Tryz.prog 146 #[.agg #[.pointer (some ⟨b, 0, none⟩)], .pointer (some ⟨gp, 0, none⟩)] w (PtP b gp P (rs.drop 24) w) := by
 have hb := h.lt
 have hb0 := h.low
 have hmf : ∀ (fn : Fn) (first cap : Array Value) (w : World), (Instr.makeFunc fn first cap).run Tryz.prog w = .ok (.func fn first cap) w := fun _ _ _ _ => rfl
 obtain ⟨wa, hwa⟩ : ∃ wa, wa = w.alloc (.cells #[.pointer (some ⟨b, 0, none⟩)] 189) := ⟨_, rfl⟩
 have ta : Touch (fun _ => False) w wa := by rw [hwa]; exact (Touch.refl _ w).alloc _
 have ca : wa.cell? ⟨w.heap.size, 0, none⟩ = some (.pointer (some ⟨b, 0, none⟩)) := by rw [hwa]; simp [go_sem]
 have za : wa.heap.size = w.heap.size + 1 := by rw [hwa]; simp
 obtain ⟨Fb, hFb⟩ : ∃ Fb : Nat → Prop, Fb = fun k => k = b ∨ k = gp := ⟨_, rfl⟩
 have fb : ∀ k, k = b → Fb k := by subst hFb; exact fun k hk => Or.inl hk
 have fg : Fb gp := by subst hFb; exact Or.inr rfl
 have fn : ¬ Fb w.heap.size := by subst hFb; show ¬ (_ ∨ _); omega
 have q0 := onl_cell ca fn
 have rd0 : Hid (Rdr N wa b rs (some 24)) := h.keep ta
 have RM : Hid (Room wa gp 19) := rm.keep ta
 have PDa : Hid (Pd wa gp P (.slice none 0 0) (.slice none 0 0) (.slice none 0 0) (.slice none 0 0) (.slice none 0 0)) := pd.keep ta
 have HNa : Hid (N ≤ wa.heap.size) := by show _ ≤ _; omega
 have ZA : Hid (wa.heap.size = w.heap.size + 1) := za
 have nbg : ¬ gp = b := by omega
 have HGP : Hid (gp < w.heap.size) := hg
 have TT : Hid (∀ w', Onl Fb wa w' → Touch (fun k => k = b ∨ k = gp) w w') := by subst hFb; exact fun w' s => (ta.mono (fun _ _ f => f.elim)).trans s.t
 have NOK : Hid (rs.length < 24 → ∀ w', Onl Fb wa w' → PtP b gp P (rs.drop 24) w (.panicked (pflawC 22)) w') := fun hl w' s => ptp_no (by unfold ppartE; simp [ht, List.length_drop]; omega) (by decide) (TT.out w' s)
 have NOI : Hid (24 ≤ rs.length → (rs.length - 24) % 20 ≠ 0 → ∀ w', Onl Fb wa w' → PtP b gp P (rs.drop 24) w (.panicked (pflawC 22)) w') := fun hl hi w' s => ptp_no (by unfold ppartE; simp [ht, List.length_drop]; omega) (by decide) (TT.out w' s)
 have HT : Hid (P.typ = 5) := ht
 have HCC : Hid (24 ≤ rs.length → ppartC P (rs.drop 24) = ⟨P, [], [], [], [], cuts 20 rdHead (rs.drop 24)⟩) := fun hl => PkRpA_C P rs ht hl
 clear ta ca za hFb fn h rm pd hN hg hb hb0 ht
 go_enter Tryz.func146, Tryz.ntmps146
 go_upto_region 1 with fail
 rw [← hwa]
 clear hwa
 generalize hG : w.heap.size = g1 at *
 have HG : Hid (w.heap.size = g1) := hG
 clear hG
 have e0 := q0 wa ⟨Touch.refl _ _⟩
 go_wp2_with fail
 refine Calls.mono (pritems20 N b _ rs _ (rd0.out) HNa.out hc) ?_
 intro e w4 h4
 rcases h4.out with ⟨v4, rfl, i4, r4, o4, t4⟩ | ⟨rfl, i4, t4⟩ 
 rotate_left
 ·exact ⟨rfl, NOI.out h24 (by omega) _ ⟨t4.mono (fun k _ e => fb k e)⟩⟩
 have s4 : Onl Fb wa w4 := ⟨t4.mono (fun k _ e => fb k e)⟩
 have u4 : Onl (fun k => k = b) wa w4 := ⟨t4⟩
 have u3 : Onl (fun k => k = b) wa wa := ⟨Touch.refl _ _⟩
 obtain ⟨va, vc, ev⟩ := own_form2 o4
 subst ev
 have m4 : Room w4 gp 19 := RM.out.touch u4.t nbg
 obtain ⟨zz0, zc0, zf0⟩ := m4 18 (by omega)
 clear h4 m4 e0
 have E0 : Hid (24 ≤ rs.length ∧ (rs.length - 24) % 20 = 0) := ⟨by omega, by omega⟩
 have O4 : Hid (w4.ownsRow w.heap.size 93 8 (.slice va (cuts 20 rdHead (rs.drop 24)).length vc) (cuts 20 rdHead (rs.drop 24)).length (headsC (cuts 20 rdHead (rs.drop 24)))) := own_lower o4 (by have h1 := u3.t.size; have h2 := ZA.out; have h3 := HG.out; omega)
 have FIN : Hid (PtP b gp P (rs.drop 24) w (.returned (.tuple #[])) (w4.setCell ⟨gp, 18, none⟩ (.slice va (cuts 20 rdHead (rs.drop 24)).length vc))) := by
  have tz : Touch (fun k => k = gp) w4 (w4.setCell ⟨gp, 18, none⟩ (.slice va (cuts 20 rdHead (rs.drop 24)).length vc)) := by refine Touch.setCell (F := fun k => k = gp) (p := ⟨gp, 18, none⟩) ?_ (Or.inl rfl) _; exact Touch.refl _ _
  have P4 : Pd w4 gp P (.slice none 0 0) (.slice none 0 0) (.slice none 0 0) (.slice none 0 0) (.slice none 0 0) := PDa.out.touch u4.t nbg
  have hne : ∀ k, (Value.slice va (cuts 20 rdHead (rs.drop 24)).length vc).ownBlock = some k → ¬ k = gp := fun k hk e => by have := (O4.out.lt k hk).1; have := HGP.out; have := HG.out; omega
  refine ptp_ok (vn := .slice none 0 0) (vd := .slice none 0 0) (vk := .slice none 0 0) (vs := .slice none 0 0) (vh := .slice va (cuts 20 rdHead (rs.drop 24)).length vc) ?_ (TT.out _ (Onl.set s4 fg _ _)) ?_ ?_ ?_
  ·obtain ⟨e1, e2⟩ := E0.out
   unfold ppartE
   simp [HT.out, List.length_drop]
   omega
  ·rw [HCC.out E0.out.1]
   exact P4.setHeads _
  ·exact (Room.set (RM.out.touch u4.t nbg) 18 _)
  ·rw [HCC.out E0.out.1]
   exact ⟨own_nil _ _ _ _, own_nil _ _ _ _, own_nil _ _ _ _, statesA_nil _ _, own_touch O4.out tz hne, (fun k hk hh => by simp [Value.ownBlock] at hk hh)⟩
 go_wp2
 go_end0
 exact FIN.out
end Go.Proofs.YtbfplepmgbkajaaGreatDoor

namespace Go.Proofs.YtbfplepmgbkajaaGreatDoor
open Go.RowKit
set_option linter.unusedVariables false
set_option maxRecDepth 100000

set_option maxHeartbeats 1000000 in
theorem prparts_any (b : Nat) (w : World) : Calls Tryz.prog 112 #[.agg #[.pointer (some ⟨b, 0, none⟩)]] w fun e w' => e = .returned (.agg #[.nilFunc, .func (.func 142) #[.agg #[.pointer (some ⟨b, 0, none⟩)]] #[], .func (.func 143) #[.agg #[.pointer (some ⟨b, 0, none⟩)]] #[], .func (.func 144) #[.agg #[.pointer (some ⟨b, 0, none⟩)]] #[], .func (.func 145) #[.agg #[.pointer (some ⟨b, 0, none⟩)]] #[], .func (.func 146) #[.agg #[.pointer (some ⟨b, 0, none⟩)]] #[]]) ∧ Touch (fun _ => False) w w' := by
 have hmf : ∀ (fn : Fn) (first cap : Array Value) (w : World), (Instr.makeFunc fn first cap).run Tryz.prog w = .ok (.func fn first cap) w := fun _ _ _ _ => rfl
 have hsf : ∀ (w : World) (a : Addr) (f : Fn) (x y : Array Value) (m : Mode), (store a (.func f x y) m).run Tryz.prog w = stored Tryz.prog w a (.func f x y) m := fun w a f x y m => run_store Tryz.prog w a _ m rfl
 have hsn : ∀ (w : World) (a : Addr) (m : Mode), (store a .nilFunc m).run Tryz.prog w = stored Tryz.prog w a .nilFunc m := fun w a m => run_store Tryz.prog w a _ m rfl
 go_enter Tryz.func112, Tryz.ntmps112
 go_wp2_with fail
 refine bodyPost_ret (v := .agg #[.nilFunc, .func (.func 142) #[.agg #[.pointer (some ⟨b, 0, none⟩)]] #[], .func (.func 143) #[.agg #[.pointer (some ⟨b, 0, none⟩)]] #[], .func (.func 144) #[.agg #[.pointer (some ⟨b, 0, none⟩)]] #[], .func (.func 145) #[.agg #[.pointer (some ⟨b, 0, none⟩)]] #[], .func (.func 146) #[.agg #[.pointer (some ⟨b, 0, none⟩)]] #[]]) (by simp [results, Tryz.results112, go_sem]) rfl ?_
 exact ⟨rfl, ((Touch.refl _ _).alloc _).alloc _⟩
/-- The function of each type. -/
theorem prparts_at (b : Nat) (w : World) (t : Int) (f : Nat) (h : (t = 1 ∧ f = 142) ∨ (t = 2 ∧ f = 143) ∨ (t = 3 ∧ f = 144) ∨ (t = 4 ∧ f = 145) ∨ (t = 5 ∧ f = 146)) :
  (Instr.index 192 (.agg #[.nilFunc, .func (.func 142) #[.agg #[.pointer (some ⟨b, 0, none⟩)]] #[], .func (.func 143) #[.agg #[.pointer (some ⟨b, 0, none⟩)]] #[], .func (.func 144) #[.agg #[.pointer (some ⟨b, 0, none⟩)]] #[], .func (.func 145) #[.agg #[.pointer (some ⟨b, 0, none⟩)]] #[], .func (.func 146) #[.agg #[.pointer (some ⟨b, 0, none⟩)]] #[]]) (.int .u8 t)).run Tryz.prog w = .ok (.func (.func f) #[.agg #[.pointer (some ⟨b, 0, none⟩)]] #[]) w := by
 rcases h with ⟨rfl, rfl⟩ | ⟨rfl, rfl⟩ | ⟨rfl, rfl⟩ | ⟨rfl, rfl⟩ | ⟨rfl, rfl⟩ <;> kernel_rfl
theorem prtype (N b gp : Nat) (P : PV) (rs : List Int) (ht : 1 ≤ P.typ ∧ P.typ ≤ 5) (h24 : 24 ≤ rs.length) (hc : rs.length ≤ 1000000) : ∃ f : Nat,
  (∀ w, (Instr.index 192 (.agg #[.nilFunc, .func (.func 142) #[.agg #[.pointer (some ⟨b, 0, none⟩)]] #[], .func (.func 143) #[.agg #[.pointer (some ⟨b, 0, none⟩)]] #[], .func (.func 144) #[.agg #[.pointer (some ⟨b, 0, none⟩)]] #[], .func (.func 145) #[.agg #[.pointer (some ⟨b, 0, none⟩)]] #[], .func (.func 146) #[.agg #[.pointer (some ⟨b, 0, none⟩)]] #[]]) (.int .u8 P.typ)).run Tryz.prog w = .ok (.func (.func f) #[.agg #[.pointer (some ⟨b, 0, none⟩)]] #[]) w) ∧ (∀ args w, (callFunc f args).run Tryz.prog w = .ok (.enter f args) w) ∧
  ∀ w : World, Rdr N w b rs (some 24) → N ≤ gp → gp < w.heap.size → Pd w gp P (.slice none 0 0) (.slice none 0 0) (.slice none 0 0) (.slice none 0 0) (.slice none 0 0) → Room w gp 19 → Calls Tryz.prog f #[.agg #[.pointer (some ⟨b, 0, none⟩)], .pointer (some ⟨gp, 0, none⟩)] w (PtP b gp P (rs.drop 24) w) := by
 obtain h1 | h2 | h3 | h4 | h5 : P.typ = 1 ∨ P.typ = 2 ∨ P.typ = 3 ∨ P.typ = 4 ∨ P.typ = 5 := by omega
 ·exact ⟨142, fun w => prparts_at b w _ _ (by omega), fun _ _ => rfl, fun w a1 a2 a3 a4 a5 => prhello N b gp P rs w a1 a2 a3 a4 a5 h1 h24 hc⟩
 ·exact ⟨143, fun w => prparts_at b w _ _ (by omega), fun _ _ => rfl, fun w a1 a2 a3 a4 a5 => prdesc N b gp P rs w a1 a2 a3 a4 a5 h2 h24 hc⟩
 ·exact ⟨144, fun w => prparts_at b w _ _ (by omega), fun _ _ => rfl, fun w a1 a2 a3 a4 a5 => prreq N b gp P rs w a1 a2 a3 a4 a5 h3 h24 hc⟩
 ·exact ⟨145, fun w => prparts_at b w _ _ (by omega), fun _ _ => rfl, fun w a1 a2 a3 a4 a5 => prupd N b gp P rs w a1 a2 a3 a4 a5 h4 h24 hc⟩
 ·exact ⟨146, fun w => prparts_at b w _ _ (by omega), fun _ _ => rfl, fun w a1 a2 a3 a4 a5 => prack N b gp P rs w a1 a2 a3 a4 a5 h5 h24 hc⟩
theorem pv0_take (rs : List Int) (n : Nat) (h : 24 ≤ n) : pv0 (rs.take n) = pv0 rs := by
 unfold pv0
 rw [List.drop_take, List.drop_take, List.take_take, List.take_take, Nat.min_eq_left (by omega), Nat.min_eq_left (by omega)]
 simp [List.getD, show 1 < n by omega]
theorem au0_take (rs : List Int) (n : Nat) (h : 24 ≤ n) : au0 (rs.take n) = au0 rs := by
 unfold au0
 rw [List.drop_take, List.take_take, Nat.min_eq_left (by omega)]
 simp [List.getD, show 16 < n by omega, show 17 < n by omega, show 18 < n by omega, show 19 < n by omega, show 20 < n by omega, show 21 < n by omega, show 22 < n by omega, show 23 < n by omega]
theorem ppartC_typ (P : PV) (c : List Int) : (ppartC P c).P.typ = P.typ := by
 unfold ppartC
 split
 ·rfl
 ·split
  ·rfl
  ·split
   ·rfl
   ·split <;> rfl
/-- What read leaves. -/
structure PDp (rs : List Int) (w : World) (e : Ending) (w' : World) : Prop where
 t : Touch (fun _ => False) w w'
 out : (pdecE rs = 0 ∧ ∃ vn vd vk vs vh, e = .returned (.tuple #[(pdecC rs).P.v vn vd vk vs vh, (pdecA rs).v]) ∧ POwnA w.heap.size w' (pdecC rs) vn vd vk vs vh) ∨ (pdecE rs ≠ 0 ∧ e = .panicked (pflawC (pdecE rs)))
theorem pdp_no {rs : List Int} {w w' : World} {n : Int} (he : pdecE rs = n) (hn : n ≠ 0) (t : Touch (fun _ => False) w w') : PDp rs w (.panicked (pflawC n)) w' := by
 subst he
 exact ⟨t, Or.inr ⟨hn, rfl⟩⟩
theorem pdecE_len {rs : List Int} (h : pLenE rs ≠ 0) : pdecE rs = pLenE rs := by unfold pdecE; rw [if_pos h]
theorem pdecE_25 {rs : List Int} (h : pLenE rs = 0) (h2 : 2 < (au0 rs).kind) : pdecE rs = 25 := by unfold pdecE; rw [if_neg (fun g => g h), if_pos h2]
theorem pdecE_22 {rs : List Int} (h : pLenE rs = 0) (h2 : ¬ 2 < (au0 rs).kind) (h3 : (au0 rs).kind ≠ 2) (h4 : (rs.length : Int) ≠ pTold rs) : pdecE rs = 22 := by unfold pdecE; rw [if_neg (fun g => g h), if_neg h2, if_pos ⟨h3, h4⟩]
theorem pdecE_23 {rs : List Int} (h : pLenE rs = 0) (h2 : ¬ 2 < (au0 rs).kind) (h3 : (au0 rs).kind ≠ 2) (h4 : (rs.length : Int) = pTold rs) (h5 : pRight rs = false) : pdecE rs = 23 := by unfold pdecE; rw [if_neg (fun g => g h), if_neg h2, if_neg (fun g => g.2 h4), if_pos ⟨h3, h5⟩]
theorem pdecE_part {rs : List Int} (h : pLenE rs = 0) (h2 : ¬ 2 < (au0 rs).kind) (h3 : (au0 rs).kind ≠ 2 → (rs.length : Int) = pTold rs ∧ pRight rs = true) : pdecE rs = ppartE (rs.getD 1 0) (pbehind rs) := by
 unfold pdecE
 rw [if_neg (fun g => g h), if_neg h2, if_neg (fun g => g.2 (h3 g.1).1), if_neg (fun g => by have := (h3 g.1).2; rw [g.2] at this; cases this)]
end Go.Proofs.YtbfplepmgbkajaaGreatDoor
