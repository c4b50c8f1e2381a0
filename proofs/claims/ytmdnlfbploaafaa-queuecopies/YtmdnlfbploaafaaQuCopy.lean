
/- Copy: a queue of its own with the same entries. -/
import Derived.Test.YtmdnlfbploaafaaQuClone
import Derived.Shelf.SlMaps.Clone
namespace Go.Proofs.Ytmdnlfbploaafaa
open Go.RowKit
set_option linter.unusedVariables false
set_option maxRecDepth 100000

set_option maxHeartbeats 1000000 in
theorem mclone_any (w : World) (m n : Nat) (f : Int → Option Int) (h : MP w m n f) :
    Calls Try.prog 32 #[.map (some m)] w fun e w' => e = .returned (.map (some w.heap.size)) ∧ MP w' w.heap.size n f ∧ Touch (fun _ => False) w w' := by
  obtain ⟨D, ⟨es, c, hb, F, hs, hD⟩, hh, ha⟩ := h
  have hq := fun w => run_eql_map_nil_sl (P := Try.prog) w 55 _ _ (some m) Try.underlying55
  have FIN : Hid (MP (w.alloc (.map es c)) w.heap.size n f) := ⟨D, ⟨es, c, (by show (w.heap.push _)[w.heap.size]? = _; simp), F, hs, hD⟩, hh, ha⟩
  clear hh ha hs hD F
  go_enter Try.func32, Try.ntmps32
  go_wp2
  rw [run_callFunc_extern Try.func43 (by kernel_rfl) (by kernel_rfl) (by kernel_rfl) (e := Extern.MapsClone.clone) (by kernel_rfl), run_maps_clone_sl w 55 hb]
  simp only [Result.andThen]
  rw [Oper.upon_value]
  go_wp2
  rw [run_typeAssert_map_sl _ 55 20 _ _ _ Try.underlying55]
  simp only [Result.andThen]
  rw [Oper.upon_value]
  go_wp2
  go_ret
  exact ⟨rfl, FIN.out, (Touch.refl _ _).alloc _⟩

theorem Snq.al {x w : World} (h : Snq x w) (o : Obj) : Snq x (w.alloc o) := ⟨h.t.alloc o⟩
/-- A queue of its own with the same entries. -/
structure CopyP (w : World) (most : Int) (l : List En) (e : Ending) (w' : World) : Prop where
  out : ∃ b m v, e = .returned (.pointer (some ⟨b, 0, none⟩)) ∧ QS w' b v m most l ∧ ∀ k, qB b v m k → w.heap.size ≤ k
  t : Touch (fun _ => False) w w'
set_option maxHeartbeats 1000000 in
theorem copy_any (w : World) (b : Nat) (v : Value) (m : Nat) (most : Int) (l : List En) (h : QS w b v m most l) :
    Calls Try.prog 16 #[.pointer (some ⟨b, 0, none⟩)] w (CopyP w most l) := by
  have HM := made_yes w b most h.c2 (by have := h.m1; omega)
  have HQ : Hid _ := h
  obtain ⟨f, P, cv⟩ := h.out
  obtain ⟨a, c, rfl⟩ := P.re.shape
  have HP : Hid _ := P
  have HCV : Hid _ := cv
  have HRE : Hid (∀ w', Snq w w' → RE w' (.slice a l.length c) l) := fun w' s => HP.out.re.keep s.t (fun _ _ h => h)
  have HMP : Hid (∀ w', Snq w w' → MP w' m l.length f) := fun w' s => HP.out.mp.keep s.t (fun h => h)
  have c0 := snq_cell P.c0
  have c1 := snq_cell P.c1
  have c2 := snq_cell h.c2
  have st : Snq w w.drew := Snq.start w
  have hl := P.hl
  have HL : Hid (l.length ≤ 2000000) := P.hl
  clear P cv h hl
  go_enter Try.func16, Try.ntmps16
  go_wp2_with fail
  refine Calls.mono HM ?_
  rintro e w0 ⟨rfl, rfl⟩
  clear HM
  go_wp2_with fail
  go_region_held3 (fun w' => Snq w w') (first | (with_reducible assumption) | (exact Snq.al (by assumption) _)) (first | (go_at_call 29; refine Calls.mono (clone_any _ (.slice a l.length c) l (HRE.out _ (by assumption)) HL.out) ?_; rintro e w1 ⟨⟨vc, rfl, rc, oc⟩, t1⟩; have s1 := Snq.trans (by assumption) t1; obtain ⟨ua, uc, hvc⟩ := RE.shape rc; subst hvc; have HRC : Hid _ := rc; have HOC : Hid _ := oc; clear rc oc) | (go_at_call 32; refine Calls.mono (mclone_any _ m l.length f (HMP.out _ (by assumption))) ?_; rintro e w2 ⟨rfl, mp2, t2⟩; have s2 := Snq.trans (by assumption) t2; have HMC : Hid _ := mp2; clear mp2))
  clear c0 c1 c2 st
  go_wp2_with fail
  go_ret
  have TA : Touch (fun _ => False) w2 (w2.alloc (.cells #[.slice ua l.length uc, .map (some w1.heap.size), .int .i64 most] 59)) := (Touch.refl _ _).alloc _
  have R := row_new w2 59 #[.slice ua l.length uc, .map (some w1.heap.size), .int .i64 most]
  have hvl : ∀ j, Value.ownBlock (.slice ua l.length uc) = some j → j < w1.heap.size := fun j hj => (World.ownsRow.lt HRC.out j hj).2
  have z1 := t2.size
  have z0 := s1.t.size
  have hm2 : w1.heap.size < w2.heap.size := MP.lt (n := l.length) (f := f) HMC.out
  have Q := HQ.out
  refine ⟨⟨w2.heap.size, w1.heap.size, .slice ua l.length uc, rfl, ⟨⟨f, ⟨R.cell 0, R.cell 1, R.frozen 0, RE.keep (RE.keep HRC.out t2 (fun _ _ h => h)) TA (fun _ _ h => h), MP.keep (n := l.length) (f := f) HMC.out TA (fun h => h), HP.out.d1, HP.out.ok, (fun e => (by have := hvl _ e; omega)), HP.out.hn, HP.out.hl⟩, HCV.out⟩, Q.hp, R.cell 2, Q.m1, Q.m2, Q.ml⟩, ?_⟩, s2.t.trans TA⟩
  intro k hk
  rcases hk with e | e | e
  · omega
  · have := HOC.out k e
    have e2 : w.drew.heap.size = w.heap.size := rfl
    omega
  · omega
end Go.Proofs.Ytmdnlfbploaafaa
