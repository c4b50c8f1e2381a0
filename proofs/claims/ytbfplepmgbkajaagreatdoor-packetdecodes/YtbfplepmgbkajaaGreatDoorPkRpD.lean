/- Package packet's reader: prhello. -/
import Derived.Test.YtbfplepmgbkajaaGreatDoorPkRp
import Derived.Deep.RegionHeld2
import Derived.Deep.DeepCutAuto
namespace Go.Proofs.YtbfplepmgbkajaaGreatDoor
open Go.RowKit
set_option linter.unusedVariables false
set_option maxRecDepth 100000

theorem getD_drop (rs : List Int) (p i : Nat) : (rs.drop p).getD i 0 = rs.getD (p + i) 0 := by simp [List.getD, List.getElem?_drop]
theorem PkRpH_C (P : PV) (rs : List Int) (ht : P.typ = 1) (hl : 44 ≤ rs.length) : ppartC P (rs.drop 24) = ⟨{ P with mask := nAt rs 24 4, iv := nAt rs 28 2, opts := nAt rs 30 1, prio := nAt rs 31 1, dead := nAt rs 32 4, dr := nAt rs 36 4, bdr := nAt rs 40 4 }, cuts 4 numOf (rs.drop 44), [], [], [], []⟩ := by
 unfold ppartC
 rw [if_pos ht]
 rw [getD_drop, getD_drop, nAt_one (show 30 < rs.length by omega), nAt_one (show 31 < rs.length by omega)]
 simp only [nAt, List.drop_drop]

set_option maxHeartbeats 4000000 in
theorem prhello (N b gp : Nat) (P : PV) (rs : List Int) (w : World) (h : Rdr N w b rs (some 24)) (hN : N ≤ gp) (hg : gp < w.heap.size) (pd : Pd w gp P (.slice none 0 0) (.slice none 0 0) (.slice none 0 0) (.slice none 0 0) (.slice none 0 0)) (rm : Room w gp 19) (ht : P.typ = 1) (h24 : 24 ≤ rs.length) (hc : rs.length ≤ 1000000) :
  Calls Tryz.prog 142 #[.agg #[.pointer (some ⟨b, 0, none⟩)], .pointer (some ⟨gp, 0, none⟩)] w (PtP b gp P (rs.drop 24) w) := by
 have hb := h.lt
 have hb0 := h.low
 have hmf : ∀ (fn : Fn) (first cap : Array Value) (w : World), (Instr.makeFunc fn first cap).run Tryz.prog w = .ok (.func fn first cap) w := fun _ _ _ _ => rfl
 obtain ⟨wa, hwa⟩ : ∃ wa, wa = w.alloc (.cells #[.pointer (some ⟨b, 0, none⟩)] 189) := ⟨_, rfl⟩
 have ta : Touch (fun _ => False) w wa := by rw [hwa]; exact (Touch.refl _ w).alloc _
 have ca : wa.cell? ⟨w.heap.size, 0, none⟩ = some (.pointer (some ⟨b, 0, none⟩)) := by rw [hwa]; simp [go_sem]
 have za : wa.heap.size = w.heap.size + 1 := by rw [hwa]; simp
 obtain ⟨Fb, hFb⟩ : ∃ Fb : Nat → Prop, Fb = fun k => k = b ∨ k = gp := ⟨_, rfl⟩
 have fb : ∀ k, k = b → Fb k := by subst hFb; exact fun k hk => Or.inl hk
 have fg : Fb gp := by subst hFb; exact Or.inr rfl
 have fn : ¬ Fb w.heap.size := by subst hFb; show ¬ (_ ∨ _); omega
 have q0 := onl_cell ca fn
 have st : Onl Fb wa wa.drew := ⟨(Touch.refl _ _).drew⟩
 have uo : Onl (fun k => k = b) wa wa.drew := ⟨(Touch.refl _ _).drew⟩
 have rd : Rdr N wa.drew b rs (some 24) := h.keep ta.drew
 have RM : Hid (Room wa gp 19) := rm.keep ta
 have PDa : Hid (Pd wa gp P (.slice none 0 0) (.slice none 0 0) (.slice none 0 0) (.slice none 0 0) (.slice none 0 0)) := pd.keep ta
 have HNa : Hid (N ≤ wa.heap.size) := by show _ ≤ _; omega
 have ZA : Hid (wa.heap.size = w.heap.size + 1) := za
 have nbg : ¬ gp = b := by omega
 have HGP : Hid (gp < w.heap.size) := hg
 have TT : Hid (∀ w', Onl Fb wa w' → Touch (fun k => k = b ∨ k = gp) w w') := by subst hFb; exact fun w' s => (ta.mono (fun _ _ f => f.elim)).trans s.t
 have NOK : Hid (rs.length < 44 → ∀ w', Onl Fb wa w' → PtP b gp P (rs.drop 24) w (.panicked (pflawC 22)) w') := fun hl w' s => ptp_no (by unfold ppartE; simp [ht, List.length_drop]; omega) (by decide) (TT.out w' s)
 have NOI : Hid (44 ≤ rs.length → (rs.length - 44) % 4 ≠ 0 → ∀ w', Onl Fb wa w' → PtP b gp P (rs.drop 24) w (.panicked (pflawC 22)) w') := fun hl hi w' s => ptp_no (by unfold ppartE; simp [ht, List.length_drop]; omega) (by decide) (TT.out w' s)
 have HT : Hid (P.typ = 1) := ht
 have HCC : Hid (44 ≤ rs.length → ppartC P (rs.drop 24) = ⟨{ P with mask := nAt rs 24 4, iv := nAt rs 28 2, opts := nAt rs 30 1, prio := nAt rs 31 1, dead := nAt rs 32 4, dr := nAt rs 36 4, bdr := nAt rs 40 4 }, cuts 4 numOf (rs.drop 44), [], [], [], []⟩) := fun hl => PkRpH_C P rs ht hl
 clear ta ca za hFb fn h rm pd hN hg hb hb0 ht
 go_enter Tryz.func142, Tryz.ntmps142
 go_upto_region 1 with fail
 rw [← hwa]
 clear hwa
 generalize hG : w.heap.size = g1 at *
 have HG : Hid (w.heap.size = g1) := hG
 clear hG
 go_region_held2 (fun w' => Onl Fb wa w') (first | with_reducible assumption | with_reducible exact (Onl.set (Onl.set (Onl.set (Onl.set (Onl.set (Onl.set (Onl.set (Onl.set s4 fg _ _) fg _ _) fg _ _) fg _ _) fg _ _) fg _ _) fg _ _) fg _ _)) (first
  | (go_at_call 140; refine Calls.mono (prnum4 N b _ rs _ (by with_reducible assumption)) ?_; intro e w3 h3; rcases h3.out with ⟨rfl, l3, r3, t3⟩ | ⟨rfl, l3, t3⟩; rotate_left; exact ⟨rfl, NOK.out (by omega) _ (Onl.step (by with_reducible assumption) t3 fb)⟩; clear h3; have s3 : Onl Fb wa w3 := Onl.step (by with_reducible assumption) t3 fb; have u3 : Onl (fun k => k = b) wa w3 := Onl.step (by with_reducible assumption) t3 (fun _ h => h))
  | (go_at_call 139; refine Calls.mono (prshort N b _ rs _ (by with_reducible assumption)) ?_; intro e w3 h3; rcases h3.out with ⟨rfl, l3, r3, t3⟩ | ⟨rfl, l3, t3⟩; rotate_left; exact ⟨rfl, NOK.out (by omega) _ (Onl.step (by with_reducible assumption) t3 fb)⟩; clear h3; have s3 : Onl Fb wa w3 := Onl.step (by with_reducible assumption) t3 fb; have u3 : Onl (fun k => k = b) wa w3 := Onl.step (by with_reducible assumption) t3 (fun _ h => h))
  | (go_at_call 138; refine Calls.mono (prsmall N b _ rs _ (by with_reducible assumption)) ?_; intro e w3 h3; rcases h3.out with ⟨rfl, l3, r3, t3⟩ | ⟨rfl, l3, t3⟩; rotate_left; exact ⟨rfl, NOK.out (by omega) _ (Onl.step (by with_reducible assumption) t3 fb)⟩; clear h3; have s3 : Onl Fb wa w3 := Onl.step (by with_reducible assumption) t3 fb; have u3 : Onl (fun k => k = b) wa w3 := Onl.step (by with_reducible assumption) t3 (fun _ h => h))
  | (go_at_call 169; refine Calls.mono (pritems4 N b _ rs _ (by with_reducible assumption) (Nat.le_trans HNa.out (Touch.size (Onl.t (by with_reducible assumption : Onl Fb wa _)))) hc) ?_; intro e w4 h4; rcases h4.out with ⟨v4, rfl, i4, r4, o4, t4⟩ | ⟨rfl, i4, t4⟩ ; rotate_left; exact ⟨rfl, NOI.out (by omega) (by omega) _ (Onl.step (by with_reducible assumption) t4 fb)⟩; clear h4; have s4 : Onl Fb wa w4 := Onl.step (by with_reducible assumption) t4 fb; have u4 : Onl (fun k => k = b) wa w4 := Onl.step (by with_reducible assumption) t4 (fun _ h => h); obtain ⟨va, vc, ev⟩ := own_form2 o4; subst ev; have m4 : Room w4 gp 19 := RM.out.touch u4.t nbg; obtain ⟨zz0, zc0, zf0⟩ := m4 3 (by omega); obtain ⟨zz1, zc1, zf1⟩ := m4 4 (by omega); obtain ⟨zz2, zc2, zf2⟩ := m4 5 (by omega); obtain ⟨zz3, zc3, zf3⟩ := m4 6 (by omega); obtain ⟨zz4, zc4, zf4⟩ := m4 7 (by omega); obtain ⟨zz5, zc5, zf5⟩ := m4 8 (by omega); obtain ⟨zz6, zc6, zf6⟩ := m4 9 (by omega); obtain ⟨zz7, zc7, zf7⟩ := m4 10 (by omega); clear m4))
 all_goals
  have E0 : Hid (44 ≤ rs.length ∧ (rs.length - 44) % 4 = 0) := ⟨by omega, by omega⟩
  have O4 : Hid (w4.ownsRow w.heap.size 22 1 (.slice va (cuts 4 numOf (rs.drop 44)).length vc) (cuts 4 numOf (rs.drop 44)).length (wordsC (cuts 4 numOf (rs.drop 44)))) := own_lower o4 (by have h1 := u3.t.size; have h2 := ZA.out; have h3 := HG.out; omega)
  have FIN : Hid (PtP b gp P (rs.drop 24) w (.returned (.tuple #[])) ((((((((w4.setCell ⟨gp, 3, none⟩ (.int .u32 (nAt rs 24 4))).setCell ⟨gp, 4, none⟩ (.int .u16 (nAt rs 28 2))).setCell ⟨gp, 5, none⟩ (.int .u8 (nAt rs 30 1))).setCell ⟨gp, 6, none⟩ (.int .u8 (nAt rs 31 1))).setCell ⟨gp, 7, none⟩ (.int .u32 (nAt rs 32 4))).setCell ⟨gp, 8, none⟩ (.int .u32 (nAt rs 36 4))).setCell ⟨gp, 9, none⟩ (.int .u32 (nAt rs 40 4))).setCell ⟨gp, 10, none⟩ (.slice va (cuts 4 numOf (rs.drop 44)).length vc))) := by
   have tz : Touch (fun k => k = gp) w4 ((((((((w4.setCell ⟨gp, 3, none⟩ (.int .u32 (nAt rs 24 4))).setCell ⟨gp, 4, none⟩ (.int .u16 (nAt rs 28 2))).setCell ⟨gp, 5, none⟩ (.int .u8 (nAt rs 30 1))).setCell ⟨gp, 6, none⟩ (.int .u8 (nAt rs 31 1))).setCell ⟨gp, 7, none⟩ (.int .u32 (nAt rs 32 4))).setCell ⟨gp, 8, none⟩ (.int .u32 (nAt rs 36 4))).setCell ⟨gp, 9, none⟩ (.int .u32 (nAt rs 40 4))).setCell ⟨gp, 10, none⟩ (.slice va (cuts 4 numOf (rs.drop 44)).length vc)) := by refine Touch.setCell (F := fun k => k = gp) (p := ⟨gp, 10, none⟩) ?_ (Or.inl rfl) _; refine Touch.setCell (F := fun k => k = gp) (p := ⟨gp, 9, none⟩) ?_ (Or.inl rfl) _; refine Touch.setCell (F := fun k => k = gp) (p := ⟨gp, 8, none⟩) ?_ (Or.inl rfl) _; refine Touch.setCell (F := fun k => k = gp) (p := ⟨gp, 7, none⟩) ?_ (Or.inl rfl) _; refine Touch.setCell (F := fun k => k = gp) (p := ⟨gp, 6, none⟩) ?_ (Or.inl rfl) _; refine Touch.setCell (F := fun k => k = gp) (p := ⟨gp, 5, none⟩) ?_ (Or.inl rfl) _; refine Touch.setCell (F := fun k => k = gp) (p := ⟨gp, 4, none⟩) ?_ (Or.inl rfl) _; refine Touch.setCell (F := fun k => k = gp) (p := ⟨gp, 3, none⟩) ?_ (Or.inl rfl) _; exact Touch.refl _ _
   have P4 : Pd w4 gp P (.slice none 0 0) (.slice none 0 0) (.slice none 0 0) (.slice none 0 0) (.slice none 0 0) := PDa.out.touch u4.t nbg
   have hne : ∀ k, (Value.slice va (cuts 4 numOf (rs.drop 44)).length vc).ownBlock = some k → ¬ k = gp := fun k hk e => by have := (O4.out.lt k hk).1; have := HGP.out; have := HG.out; omega
   refine ptp_ok (vn := .slice va (cuts 4 numOf (rs.drop 44)).length vc) (vd := .slice none 0 0) (vk := .slice none 0 0) (vs := .slice none 0 0) (vh := .slice none 0 0) ?_ (TT.out _ (Onl.set (Onl.set (Onl.set (Onl.set (Onl.set (Onl.set (Onl.set (Onl.set s4 fg _ _) fg _ _) fg _ _) fg _ _) fg _ _) fg _ _) fg _ _) fg _ _)) ?_ ?_ ?_
   ·obtain ⟨e1, e2⟩ := E0.out
    unfold ppartE
    simp [HT.out, List.length_drop]
    omega
   ·rw [HCC.out E0.out.1]
    exact P4.setHello _ _ _ _ _ _ _ _
   ·exact (Room.set ((Room.set ((Room.set ((Room.set ((Room.set ((Room.set ((Room.set ((Room.set (RM.out.touch u4.t nbg) 3 _)) 4 _)) 5 _)) 6 _)) 7 _)) 8 _)) 9 _)) 10 _)
   ·rw [HCC.out E0.out.1]
    exact ⟨own_touch O4.out tz hne, own_nil _ _ _ _, own_nil _ _ _ _, statesA_nil _ _, own_nil _ _ _ _, (fun k hk hh => by simp [Value.ownBlock] at hk hh)⟩
  go_wp2
  go_end0
  exact FIN.out
end Go.Proofs.YtbfplepmgbkajaaGreatDoor

namespace Go.Proofs.YtbfplepmgbkajaaGreatDoor
open Go.RowKit
set_option linter.unusedVariables false
set_option maxRecDepth 100000

theorem getD_drop2 (rs : List Int) (p i : Nat) : (rs.drop p).getD i 0 = rs.getD (p + i) 0 := by simp [List.getD, List.getElem?_drop]
theorem PkRpD_C (P : PV) (rs : List Int) (ht : P.typ = 2) (hl : 32 ≤ rs.length) : ppartC P (rs.drop 24) = ⟨{ P with mtu := nAt rs 24 2, dopts := nAt rs 26 1, dflags := nAt rs 27 1, dseq := nAt rs 28 4 }, [], cuts 20 rdHead (rs.drop 32), [], [], []⟩ := by
 unfold ppartC
 rw [if_neg (by omega), if_pos ht]
 rw [getD_drop2, getD_drop2, nAt_one (show 26 < rs.length by omega), nAt_one (show 27 < rs.length by omega)]
 simp only [nAt, List.drop_drop]

set_option maxHeartbeats 4000000 in
theorem prdesc (N b gp : Nat) (P : PV) (rs : List Int) (w : World) (h : Rdr N w b rs (some 24)) (hN : N ≤ gp) (hg : gp < w.heap.size) (pd : Pd w gp P (.slice none 0 0) (.slice none 0 0) (.slice none 0 0) (.slice none 0 0) (.slice none 0 0)) (rm : Room w gp 19) (ht : P.typ = 2) (h24 : 24 ≤ rs.length) (hc : rs.length ≤ 1000000) :
  Calls Tryz.prog 143 #[.agg #[.pointer (some ⟨b, 0, none⟩)], .pointer (some ⟨gp, 0, none⟩)] w (PtP b gp P (rs.drop 24) w) := by
 have hb := h.lt
 have hb0 := h.low
 have hmf : ∀ (fn : Fn) (first cap : Array Value) (w : World), (Instr.makeFunc fn first cap).run Tryz.prog w = .ok (.func fn first cap) w := fun _ _ _ _ => rfl
 obtain ⟨wa, hwa⟩ : ∃ wa, wa = w.alloc (.cells #[.pointer (some ⟨b, 0, none⟩)] 189) := ⟨_, rfl⟩
 have ta : Touch (fun _ => False) w wa := by rw [hwa]; exact (Touch.refl _ w).alloc _
 have ca : wa.cell? ⟨w.heap.size, 0, none⟩ = some (.pointer (some ⟨b, 0, none⟩)) := by rw [hwa]; simp [go_sem]
 have za : wa.heap.size = w.heap.size + 1 := by rw [hwa]; simp
 obtain ⟨Fb, hFb⟩ : ∃ Fb : Nat → Prop, Fb = fun k => k = b ∨ k = gp := ⟨_, rfl⟩
 have fb : ∀ k, k = b → Fb k := by subst hFb; exact fun k hk => Or.inl hk
 have fg : Fb gp := by subst hFb; exact Or.inr rfl
 have fn : ¬ Fb w.heap.size := by subst hFb; show ¬ (_ ∨ _); omega
 have q0 := onl_cell ca fn
 have st : Onl Fb wa wa.drew := ⟨(Touch.refl _ _).drew⟩
 have uo : Onl (fun k => k = b) wa wa.drew := ⟨(Touch.refl _ _).drew⟩
 have rd : Rdr N wa.drew b rs (some 24) := h.keep ta.drew
 have RM : Hid (Room wa gp 19) := rm.keep ta
 have PDa : Hid (Pd wa gp P (.slice none 0 0) (.slice none 0 0) (.slice none 0 0) (.slice none 0 0) (.slice none 0 0)) := pd.keep ta
 have HNa : Hid (N ≤ wa.heap.size) := by show _ ≤ _; omega
 have ZA : Hid (wa.heap.size = w.heap.size + 1) := za
 have nbg : ¬ gp = b := by omega
 have HGP : Hid (gp < w.heap.size) := hg
 have TT : Hid (∀ w', Onl Fb wa w' → Touch (fun k => k = b ∨ k = gp) w w') := by subst hFb; exact fun w' s => (ta.mono (fun _ _ f => f.elim)).trans s.t
 have NOK : Hid (rs.length < 32 → ∀ w', Onl Fb wa w' → PtP b gp P (rs.drop 24) w (.panicked (pflawC 22)) w') := fun hl w' s => ptp_no (by unfold ppartE; simp [ht, List.length_drop]; omega) (by decide) (TT.out w' s)
 have NOI : Hid (32 ≤ rs.length → (rs.length - 32) % 20 ≠ 0 → ∀ w', Onl Fb wa w' → PtP b gp P (rs.drop 24) w (.panicked (pflawC 22)) w') := fun hl hi w' s => ptp_no (by unfold ppartE; simp [ht, List.length_drop]; omega) (by decide) (TT.out w' s)
 have HT : Hid (P.typ = 2) := ht
 have HCC : Hid (32 ≤ rs.length → ppartC P (rs.drop 24) = ⟨{ P with mtu := nAt rs 24 2, dopts := nAt rs 26 1, dflags := nAt rs 27 1, dseq := nAt rs 28 4 }, [], cuts 20 rdHead (rs.drop 32), [], [], []⟩) := fun hl => PkRpD_C P rs ht hl
 clear ta ca za hFb fn h rm pd hN hg hb hb0 ht
 go_enter Tryz.func143, Tryz.ntmps143
 go_upto_region 1 with fail
 rw [← hwa]
 clear hwa
 generalize hG : w.heap.size = g1 at *
 have HG : Hid (w.heap.size = g1) := hG
 clear hG
 go_region_held2 (fun w' => Onl Fb wa w') (first | with_reducible assumption | with_reducible exact (Onl.set (Onl.set (Onl.set (Onl.set (Onl.set s4 fg _ _) fg _ _) fg _ _) fg _ _) fg _ _)) (first
  | (go_at_call 140; refine Calls.mono (prnum4 N b _ rs _ (by with_reducible assumption)) ?_; intro e w3 h3; rcases h3.out with ⟨rfl, l3, r3, t3⟩ | ⟨rfl, l3, t3⟩; rotate_left; exact ⟨rfl, NOK.out (by omega) _ (Onl.step (by with_reducible assumption) t3 fb)⟩; clear h3; have s3 : Onl Fb wa w3 := Onl.step (by with_reducible assumption) t3 fb; have u3 : Onl (fun k => k = b) wa w3 := Onl.step (by with_reducible assumption) t3 (fun _ h => h))
  | (go_at_call 139; refine Calls.mono (prshort N b _ rs _ (by with_reducible assumption)) ?_; intro e w3 h3; rcases h3.out with ⟨rfl, l3, r3, t3⟩ | ⟨rfl, l3, t3⟩; rotate_left; exact ⟨rfl, NOK.out (by omega) _ (Onl.step (by with_reducible assumption) t3 fb)⟩; clear h3; have s3 : Onl Fb wa w3 := Onl.step (by with_reducible assumption) t3 fb; have u3 : Onl (fun k => k = b) wa w3 := Onl.step (by with_reducible assumption) t3 (fun _ h => h))
  | (go_at_call 138; refine Calls.mono (prsmall N b _ rs _ (by with_reducible assumption)) ?_; intro e w3 h3; rcases h3.out with ⟨rfl, l3, r3, t3⟩ | ⟨rfl, l3, t3⟩; rotate_left; exact ⟨rfl, NOK.out (by omega) _ (Onl.step (by with_reducible assumption) t3 fb)⟩; clear h3; have s3 : Onl Fb wa w3 := Onl.step (by with_reducible assumption) t3 fb; have u3 : Onl (fun k => k = b) wa w3 := Onl.step (by with_reducible assumption) t3 (fun _ h => h))
  | (go_at_call 171; refine Calls.mono (pritems20 N b _ rs _ (by with_reducible assumption) (Nat.le_trans HNa.out (Touch.size (Onl.t (by with_reducible assumption : Onl Fb wa _)))) hc) ?_; intro e w4 h4; rcases h4.out with ⟨v4, rfl, i4, r4, o4, t4⟩ | ⟨rfl, i4, t4⟩ ; rotate_left; exact ⟨rfl, NOI.out (by omega) (by omega) _ (Onl.step (by with_reducible assumption) t4 fb)⟩; clear h4; have s4 : Onl Fb wa w4 := Onl.step (by with_reducible assumption) t4 fb; have u4 : Onl (fun k => k = b) wa w4 := Onl.step (by with_reducible assumption) t4 (fun _ h => h); obtain ⟨va, vc, ev⟩ := own_form2 o4; subst ev; have m4 : Room w4 gp 19 := RM.out.touch u4.t nbg; obtain ⟨zz0, zc0, zf0⟩ := m4 11 (by omega); obtain ⟨zz1, zc1, zf1⟩ := m4 12 (by omega); obtain ⟨zz2, zc2, zf2⟩ := m4 13 (by omega); obtain ⟨zz3, zc3, zf3⟩ := m4 14 (by omega); obtain ⟨zz4, zc4, zf4⟩ := m4 15 (by omega); clear m4))
 all_goals
  have E0 : Hid (32 ≤ rs.length ∧ (rs.length - 32) % 20 = 0) := ⟨by omega, by omega⟩
  have O4 : Hid (w4.ownsRow w.heap.size 93 8 (.slice va (cuts 20 rdHead (rs.drop 32)).length vc) (cuts 20 rdHead (rs.drop 32)).length (headsC (cuts 20 rdHead (rs.drop 32)))) := own_lower o4 (by have h1 := u3.t.size; have h2 := ZA.out; have h3 := HG.out; omega)
  have FIN : Hid (PtP b gp P (rs.drop 24) w (.returned (.tuple #[])) (((((w4.setCell ⟨gp, 11, none⟩ (.int .u16 (nAt rs 24 2))).setCell ⟨gp, 12, none⟩ (.int .u8 (nAt rs 26 1))).setCell ⟨gp, 13, none⟩ (.int .u8 (nAt rs 27 1))).setCell ⟨gp, 14, none⟩ (.int .u32 (nAt rs 28 4))).setCell ⟨gp, 15, none⟩ (.slice va (cuts 20 rdHead (rs.drop 32)).length vc))) := by
   have tz : Touch (fun k => k = gp) w4 (((((w4.setCell ⟨gp, 11, none⟩ (.int .u16 (nAt rs 24 2))).setCell ⟨gp, 12, none⟩ (.int .u8 (nAt rs 26 1))).setCell ⟨gp, 13, none⟩ (.int .u8 (nAt rs 27 1))).setCell ⟨gp, 14, none⟩ (.int .u32 (nAt rs 28 4))).setCell ⟨gp, 15, none⟩ (.slice va (cuts 20 rdHead (rs.drop 32)).length vc)) := by refine Touch.setCell (F := fun k => k = gp) (p := ⟨gp, 15, none⟩) ?_ (Or.inl rfl) _; refine Touch.setCell (F := fun k => k = gp) (p := ⟨gp, 14, none⟩) ?_ (Or.inl rfl) _; refine Touch.setCell (F := fun k => k = gp) (p := ⟨gp, 13, none⟩) ?_ (Or.inl rfl) _; refine Touch.setCell (F := fun k => k = gp) (p := ⟨gp, 12, none⟩) ?_ (Or.inl rfl) _; refine Touch.setCell (F := fun k => k = gp) (p := ⟨gp, 11, none⟩) ?_ (Or.inl rfl) _; exact Touch.refl _ _
   have P4 : Pd w4 gp P (.slice none 0 0) (.slice none 0 0) (.slice none 0 0) (.slice none 0 0) (.slice none 0 0) := PDa.out.touch u4.t nbg
   have hne : ∀ k, (Value.slice va (cuts 20 rdHead (rs.drop 32)).length vc).ownBlock = some k → ¬ k = gp := fun k hk e => by have := (O4.out.lt k hk).1; have := HGP.out; have := HG.out; omega
   refine ptp_ok (vn := .slice none 0 0) (vd := .slice va (cuts 20 rdHead (rs.drop 32)).length vc) (vk := .slice none 0 0) (vs := .slice none 0 0) (vh := .slice none 0 0) ?_ (TT.out _ (Onl.set (Onl.set (Onl.set (Onl.set (Onl.set s4 fg _ _) fg _ _) fg _ _) fg _ _) fg _ _)) ?_ ?_ ?_
   ·obtain ⟨e1, e2⟩ := E0.out
    unfold ppartE
    simp [HT.out, List.length_drop]
    omega
   ·rw [HCC.out E0.out.1]
    exact P4.setDesc _ _ _ _ _
   ·exact (Room.set ((Room.set ((Room.set ((Room.set ((Room.set (RM.out.touch u4.t nbg) 11 _)) 12 _)) 13 _)) 14 _)) 15 _)
   ·rw [HCC.out E0.out.1]
    exact ⟨own_nil _ _ _ _, own_touch O4.out tz hne, own_nil _ _ _ _, statesA_nil _ _, own_nil _ _ _ _, (fun k hk hh => by simp [Value.ownBlock] at hk hh)⟩
  go_wp2
  go_end0
  exact FIN.out
end Go.Proofs.YtbfplepmgbkajaaGreatDoor
