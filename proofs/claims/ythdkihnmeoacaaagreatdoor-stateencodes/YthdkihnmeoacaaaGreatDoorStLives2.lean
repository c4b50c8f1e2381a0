/- Contracts: write by type; Encode of every head and body. -/
import Derived.Test.YthdkihnmeoacaaaGreatDoorStWriteAny
import Derived.Test.YthdkihnmeoacaaaGreatDoorStWOut
import Derived.Test.YthdkihnmeoacaaaGreatDoorStWLink
import Derived.Test.YthdkihnmeoacaaaGreatDoorStWNone
import Derived.Test.YthdkihnmeoacaaaGreatDoorStEnc
import Derived.Test.YthdkihnmeoacaaaGreatDoorStTypes
namespace Go.Proofs.YthdkihnmeoacaaaGreatDoor
open Go.RowKit
set_option linter.unusedVariables false
set_option maxRecDepth 100000

/-- A body's rows are no longer than a statement looks at. -/
structure Light (B : BV) : Prop where
  l : B.links.length ≤ 1000000
  r : B.routers.length ≤ 1000000
  d : B.data.length ≤ 1000000
theorem write_1 (B : BV) (ok : B.Ok) (lt : Light B) (a1 a3 a8 : Option Addr) (q1 q3 q8 : Nat) (w : World) (hA : BArg w B (.slice a1 B.links.length q1) (.slice a3 B.routers.length q3) (.slice a8 B.data.length q8)) : Calls Tryz.prog 39 #[.int .u8 1, .agg #[.int .u8 B.flags, .slice a1 B.links.length q1, .int .u32 B.mask, .slice a3 B.routers.length q3, .int .u32 B.metric, .bool B.type2, .int .u32 B.fwd, .int .u32 B.tag, .slice a8 B.data.length q8]] w (WAns 1 B w) := by
  obtain ⟨hl, hr, hd⟩ := lt
  exact writeB_any 118 119 (fun _ _ => rfl) (fun _ => by kernel_rfl) 1 B ok a1 a3 a8 q1 q3 q8 w hA ⟨by omega, by omega, by omega⟩ pairOf_1 (fun X b g w hw hg hB hA => wrtr_any X b g [] 65515 B a1 a3 a8 q1 q3 q8 ok w hw (by omega) hg hB (fun w' k => (hA w' k).l))
theorem write_2 (B : BV) (ok : B.Ok) (lt : Light B) (a1 a3 a8 : Option Addr) (q1 q3 q8 : Nat) (w : World) (hA : BArg w B (.slice a1 B.links.length q1) (.slice a3 B.routers.length q3) (.slice a8 B.data.length q8)) : Calls Tryz.prog 39 #[.int .u8 2, .agg #[.int .u8 B.flags, .slice a1 B.links.length q1, .int .u32 B.mask, .slice a3 B.routers.length q3, .int .u32 B.metric, .bool B.type2, .int .u32 B.fwd, .int .u32 B.tag, .slice a8 B.data.length q8]] w (WAns 2 B w) := by
  obtain ⟨hl, hr, hd⟩ := lt
  exact writeB_any 120 121 (fun _ _ => rfl) (fun _ => by kernel_rfl) 2 B ok a1 a3 a8 q1 q3 q8 w hA ⟨by omega, by omega, by omega⟩ pairOf_2 (fun X b g w hw hg hB hA => wnet_any X b g [] 65515 B a1 a3 a8 q1 q3 q8 ok w hw (by omega) hg hB (fun w' k => (hA w' k).r))
theorem write_3 (B : BV) (ok : B.Ok) (lt : Light B) (a1 a3 a8 : Option Addr) (q1 q3 q8 : Nat) (w : World) (hA : BArg w B (.slice a1 B.links.length q1) (.slice a3 B.routers.length q3) (.slice a8 B.data.length q8)) : Calls Tryz.prog 39 #[.int .u8 3, .agg #[.int .u8 B.flags, .slice a1 B.links.length q1, .int .u32 B.mask, .slice a3 B.routers.length q3, .int .u32 B.metric, .bool B.type2, .int .u32 B.fwd, .int .u32 B.tag, .slice a8 B.data.length q8]] w (WAns 3 B w) := by
  obtain ⟨hl, hr, hd⟩ := lt
  exact writeB_any 122 123 (fun _ _ => rfl) (fun _ => by kernel_rfl) 3 B ok a1 a3 a8 q1 q3 q8 w hA ⟨by omega, by omega, by omega⟩ pairOf_3 (fun X b g w hw hg hB hA => wsum_any X b g [] 65515 B a1 a3 a8 q1 q3 q8 ok w hw (by omega) hg hB)
theorem write_4 (B : BV) (ok : B.Ok) (lt : Light B) (a1 a3 a8 : Option Addr) (q1 q3 q8 : Nat) (w : World) (hA : BArg w B (.slice a1 B.links.length q1) (.slice a3 B.routers.length q3) (.slice a8 B.data.length q8)) : Calls Tryz.prog 39 #[.int .u8 4, .agg #[.int .u8 B.flags, .slice a1 B.links.length q1, .int .u32 B.mask, .slice a3 B.routers.length q3, .int .u32 B.metric, .bool B.type2, .int .u32 B.fwd, .int .u32 B.tag, .slice a8 B.data.length q8]] w (WAns 4 B w) := by
  obtain ⟨hl, hr, hd⟩ := lt
  exact writeB_any 124 125 (fun _ _ => rfl) (fun _ => by kernel_rfl) 4 B ok a1 a3 a8 q1 q3 q8 w hA ⟨by omega, by omega, by omega⟩ pairOf_4 (fun X b g w hw hg hB hA => wborder_any X b g [] 65515 B a1 a3 a8 q1 q3 q8 ok w hw (by omega) hg hB)
theorem write_5 (B : BV) (ok : B.Ok) (lt : Light B) (a1 a3 a8 : Option Addr) (q1 q3 q8 : Nat) (w : World) (hA : BArg w B (.slice a1 B.links.length q1) (.slice a3 B.routers.length q3) (.slice a8 B.data.length q8)) : Calls Tryz.prog 39 #[.int .u8 5, .agg #[.int .u8 B.flags, .slice a1 B.links.length q1, .int .u32 B.mask, .slice a3 B.routers.length q3, .int .u32 B.metric, .bool B.type2, .int .u32 B.fwd, .int .u32 B.tag, .slice a8 B.data.length q8]] w (WAns 5 B w) := by
  obtain ⟨hl, hr, hd⟩ := lt
  exact writeB_any 114 115 (fun _ _ => rfl) (fun _ => by kernel_rfl) 5 B ok a1 a3 a8 q1 q3 q8 w hA ⟨by omega, by omega, by omega⟩ pairOf_5 (fun X b g w hw hg hB hA => wouter_any 5 (by omega) X b g [] 65515 B a1 a3 a8 q1 q3 q8 ok w hw (by omega) hg hB)
theorem write_7 (B : BV) (ok : B.Ok) (lt : Light B) (a1 a3 a8 : Option Addr) (q1 q3 q8 : Nat) (w : World) (hA : BArg w B (.slice a1 B.links.length q1) (.slice a3 B.routers.length q3) (.slice a8 B.data.length q8)) : Calls Tryz.prog 39 #[.int .u8 7, .agg #[.int .u8 B.flags, .slice a1 B.links.length q1, .int .u32 B.mask, .slice a3 B.routers.length q3, .int .u32 B.metric, .bool B.type2, .int .u32 B.fwd, .int .u32 B.tag, .slice a8 B.data.length q8]] w (WAns 7 B w) := by
  obtain ⟨hl, hr, hd⟩ := lt
  exact writeB_any 114 115 (fun _ _ => rfl) (fun _ => by kernel_rfl) 7 B ok a1 a3 a8 q1 q3 q8 w hA ⟨by omega, by omega, by omega⟩ pairOf_7 (fun X b g w hw hg hB hA => wouter_any 7 (by omega) X b g [] 65515 B a1 a3 a8 q1 q3 q8 ok w hw (by omega) hg hB)
theorem write_9 (B : BV) (ok : B.Ok) (lt : Light B) (a1 a3 a8 : Option Addr) (q1 q3 q8 : Nat) (w : World) (hA : BArg w B (.slice a1 B.links.length q1) (.slice a3 B.routers.length q3) (.slice a8 B.data.length q8)) : Calls Tryz.prog 39 #[.int .u8 9, .agg #[.int .u8 B.flags, .slice a1 B.links.length q1, .int .u32 B.mask, .slice a3 B.routers.length q3, .int .u32 B.metric, .bool B.type2, .int .u32 B.fwd, .int .u32 B.tag, .slice a8 B.data.length q8]] w (WAns 9 B w) := by
  obtain ⟨hl, hr, hd⟩ := lt
  exact writeB_any 116 117 (fun _ _ => rfl) (fun _ => by kernel_rfl) 9 B ok a1 a3 a8 q1 q3 q8 w hA ⟨by omega, by omega, by omega⟩ pairOf_9 (fun X b g w hw hg hB hA => wopaque_any 9 (by omega) X b g [] 65515 B a1 a3 a8 q1 q3 q8 ok w hw (by omega) hg hB (fun w' k => (hA w' k).d) (by omega))
theorem write_10 (B : BV) (ok : B.Ok) (lt : Light B) (a1 a3 a8 : Option Addr) (q1 q3 q8 : Nat) (w : World) (hA : BArg w B (.slice a1 B.links.length q1) (.slice a3 B.routers.length q3) (.slice a8 B.data.length q8)) : Calls Tryz.prog 39 #[.int .u8 10, .agg #[.int .u8 B.flags, .slice a1 B.links.length q1, .int .u32 B.mask, .slice a3 B.routers.length q3, .int .u32 B.metric, .bool B.type2, .int .u32 B.fwd, .int .u32 B.tag, .slice a8 B.data.length q8]] w (WAns 10 B w) := by
  obtain ⟨hl, hr, hd⟩ := lt
  exact writeB_any 116 117 (fun _ _ => rfl) (fun _ => by kernel_rfl) 10 B ok a1 a3 a8 q1 q3 q8 w hA ⟨by omega, by omega, by omega⟩ pairOf_10 (fun X b g w hw hg hB hA => wopaque_any 10 (by omega) X b g [] 65515 B a1 a3 a8 q1 q3 q8 ok w hw (by omega) hg hB (fun w' k => (hA w' k).d) (by omega))
theorem write_11 (B : BV) (ok : B.Ok) (lt : Light B) (a1 a3 a8 : Option Addr) (q1 q3 q8 : Nat) (w : World) (hA : BArg w B (.slice a1 B.links.length q1) (.slice a3 B.routers.length q3) (.slice a8 B.data.length q8)) : Calls Tryz.prog 39 #[.int .u8 11, .agg #[.int .u8 B.flags, .slice a1 B.links.length q1, .int .u32 B.mask, .slice a3 B.routers.length q3, .int .u32 B.metric, .bool B.type2, .int .u32 B.fwd, .int .u32 B.tag, .slice a8 B.data.length q8]] w (WAns 11 B w) := by
  obtain ⟨hl, hr, hd⟩ := lt
  exact writeB_any 116 117 (fun _ _ => rfl) (fun _ => by kernel_rfl) 11 B ok a1 a3 a8 q1 q3 q8 w hA ⟨by omega, by omega, by omega⟩ pairOf_11 (fun X b g w hw hg hB hA => wopaque_any 11 (by omega) X b g [] 65515 B a1 a3 a8 q1 q3 q8 ok w hw (by omega) hg hB (fun w' k => (hA w' k).d) (by omega))
theorem writeT {t : Int} (hk : knownB t = true) (B : BV) (ok : B.Ok) (lt : Light B) (a1 a3 a8 : Option Addr) (q1 q3 q8 : Nat) (w : World) (hA : BArg w B (.slice a1 B.links.length q1) (.slice a3 B.routers.length q3) (.slice a8 B.data.length q8)) : Calls Tryz.prog 39 #[.int .u8 t, .agg #[.int .u8 B.flags, .slice a1 B.links.length q1, .int .u32 B.mask, .slice a3 B.routers.length q3, .int .u32 B.metric, .bool B.type2, .int .u32 B.fwd, .int .u32 B.tag, .slice a8 B.data.length q8]] w (WAns t B w) := by
  rcases known_cases hk with rfl | rfl | rfl | rfl | rfl | rfl | rfl | rfl | rfl
  · exact write_1 B ok lt a1 a3 a8 q1 q3 q8 w hA
  · exact write_2 B ok lt a1 a3 a8 q1 q3 q8 w hA
  · exact write_3 B ok lt a1 a3 a8 q1 q3 q8 w hA
  · exact write_4 B ok lt a1 a3 a8 q1 q3 q8 w hA
  · exact write_5 B ok lt a1 a3 a8 q1 q3 q8 w hA
  · exact write_7 B ok lt a1 a3 a8 q1 q3 q8 w hA
  · exact write_9 B ok lt a1 a3 a8 q1 q3 q8 w hA
  · exact write_10 B ok lt a1 a3 a8 q1 q3 q8 w hA
  · exact write_11 B ok lt a1 a3 a8 q1 q3 q8 w hA
/-- What Encode tells of what it refuses. -/
def encE (t : Int) (B : BV) : Int := if knownB t = false then 21 else if mayB t B = false then 28 else if 65515 < (layB t B).length then 11 else 0
structure EncOk (t : Int) (B : BV) : Prop where
  known : knownB t = true
  may : mayB t B = true
  len : (layB t B).length ≤ 65515
theorem encE_ok {t : Int} {B : BV} (h : encE t B = 0) : EncOk t B := by
  unfold encE at h
  split at h
  · omega
  · rename_i h1
    split at h
    · omega
    · rename_i h2
      split at h
      · omega
      · exact ⟨by simpa using h1, by simpa using h2, by omega⟩
theorem EncOk.zero {t : Int} {B : BV} (h : EncOk t B) : encE t B = 0 := by
  have := h.len
  simp [encE, h.known, h.may]
  omega
theorem encode_good (h : HV) (ok : h.All) (B : BV) (okb : B.Ok) (lt : Light B) (a1 a3 a8 : Option Addr) (q1 q3 q8 : Nat) (w : World) (hA : BArg w B (.slice a1 B.links.length q1) (.slice a3 B.routers.length q3) (.slice a8 B.data.length q8)) (he : EncOk h.typ B) :
    Calls Tryz.prog 9 #[h.v, B.v (.slice a1 B.links.length q1) (.slice a3 B.routers.length q3) (.slice a8 B.data.length q8)] w fun e w' => ∃ u, e = .returned (.tuple #[(sealH h (layB h.typ B)).sv u, .int .i64 0]) ∧ Buf w w' u (layB h.typ B) :=
  encode_ok h ok B a1 a3 a8 B.links.length q1 B.routers.length q3 B.data.length q8 (layB h.typ B) w (layB_byte okb) he.len (fun w' t => (writeT he.known B okb lt a1 a3 a8 q1 q3 q8 w' (hA.keep t)).mono (by
    rintro e w'' (⟨-, -, u, rfl, b⟩ | ⟨h1, -, -⟩ | ⟨-, h2, -, -⟩)
    · exact ⟨u, rfl, b⟩
    · rw [he.may] at h1; cases h1
    · have := he.len; omega))
theorem encode_bad (h : HV) (ok : h.All) (B : BV) (okb : B.Ok) (lt : Light B) (a1 a3 a8 : Option Addr) (q1 q3 q8 : Nat) (w : World) (hA : BArg w B (.slice a1 B.links.length q1) (.slice a3 B.routers.length q3) (.slice a8 B.data.length q8)) (he : encE h.typ B ≠ 0) :
    Calls Tryz.prog 9 #[h.v, B.v (.slice a1 B.links.length q1) (.slice a3 B.routers.length q3) (.slice a8 B.data.length q8)] w fun e w' => e = .returned (.tuple #[.agg #[.int .u16 0, .int .u8 0, .int .u8 0, .int .u32 0, .int .u32 0, .int .i32 0, .int .u16 0, .int .u16 0, .slice none 0 0], .int .i64 (encE h.typ B)]) ∧ Touch (fun _ => False) w w' := by
  refine encode_no h B a1 a3 a8 B.links.length q1 B.routers.length q3 B.data.length q8 (encE h.typ B) w (fun w' t => ?_)
  cases hk : knownB h.typ with
  | false =>
    have e : encE h.typ B = 21 := by simp [encE, hk]
    rw [e]
    exact write_none B h.typ a1 a3 a8 B.links.length q1 B.routers.length q3 B.data.length q8 w' (fun w => typeNone ok.t.1 ok.t.2 hk w)
  | true =>
    refine (writeT hk B okb lt a1 a3 a8 q1 q3 q8 w' (hA.keep t)).mono ?_
    rintro e w'' (⟨h1, h2, -⟩ | ⟨h1, rfl, t'⟩ | ⟨h1, h2, rfl, t'⟩)
    · exact absurd (EncOk.zero ⟨hk, h1, h2⟩) he
    · have e : encE h.typ B = 28 := by simp [encE, hk, h1]
      rw [e]
      exact ⟨rfl, t'⟩
    · have e : encE h.typ B = 11 := by simp [encE, hk, h1, h2]
      rw [e]
      exact ⟨rfl, t'⟩
end Go.Proofs.YthdkihnmeoacaaaGreatDoor

namespace Go.Proofs.YthdkihnmeoacaaaGreatDoor
open Go.RowKit
set_option linter.unusedVariables false
set_option maxRecDepth 100000

def lvH : HV := ⟨0, 0, 3, 0, 0, 1, 0, 0⟩
def lvH6 : HV := ⟨0, 0, 6, 0, 0, 0, 0, 0⟩
def lvB : BV := ⟨0, [], 4294967040, [], 10, false, 0, 0, []⟩
def lvL : List Int := [255, 255, 255, 0, 0, 0, 0, 10]
theorem lvH_all : lvH.All := by constructor <;> decide
theorem lvH6_all : lvH6.All := by constructor <;> decide
theorem lvB_ok : lvB.Ok := by constructor <;> simp [lvB]
theorem lvZ_ok : BV.zero.Ok := by constructor <;> simp [BV.zero]
theorem lvB_light : Light lvB := ⟨by decide, by decide, by decide⟩
theorem lvZ_light : Light BV.zero := ⟨by decide, by decide, by decide⟩
theorem lv_mask : pbok 4294967040 = true := by decide +kernel
theorem lv_lay : layB lvH.typ lvB = lvL := by decide +kernel
theorem lv_byte : ∀ z ∈ lvL, 0 ≤ z ∧ z < 256 := by decide
theorem lv_encok : EncOk lvH.typ lvB := ⟨by decide, (mayB_iff _ _).2 ⟨by decide, by decide, by decide, by decide, by decide, by decide, lv_mask, by decide, by decide, by decide, by simp [lvB]⟩, by rw [lv_lay]; decide⟩
theorem nil_barg (w : World) (B : BV) (h1 : B.links = []) (h3 : B.routers = []) (h8 : B.data = []) : BArg w B (.slice none B.links.length 0) (.slice none B.routers.length 0) (.slice none B.data.length 0) := by
  rw [h1, h3, h8]
  refine ⟨?_, ?_, ?_⟩
  · rw [h1]; exact ⟨rfl, Or.inl ⟨rfl, rfl⟩⟩
  · rw [h3]; exact ⟨rfl, Or.inl ⟨rfl, rfl⟩⟩
  · rw [h8]; exact Or.inl ⟨rfl, rfl⟩
theorem lv_enc (w : World) : Calls Tryz.prog 9 #[.agg #[.int .u16 0, .int .u8 0, .int .u8 3, .int .u32 0, .int .u32 0, .int .i32 1, .int .u16 0, .int .u16 0], .agg #[.int .u8 0, .slice none 0 0, .int .u32 4294967040, .slice none 0 0, .int .u32 10, .bool false, .int .u32 0, .int .u32 0, .slice none 0 0]] w fun e w' => ∃ u, e = .returned (.tuple #[(sealH lvH lvL).sv u, .int .i64 0]) ∧ Buf w w' u lvL := by
  have := encode_good lvH lvH_all lvB lvB_ok lvB_light none none none 0 0 0 w (nil_barg w lvB rfl rfl rfl) lv_encok
  rw [lv_lay] at this
  exact this
theorem lv_enc6 (w : World) : Calls Tryz.prog 9 #[.agg #[.int .u16 0, .int .u8 0, .int .u8 6, .int .u32 0, .int .u32 0, .int .i32 0, .int .u16 0, .int .u16 0], .agg #[.int .u8 0, .slice none 0 0, .int .u32 0, .slice none 0 0, .int .u32 0, .bool false, .int .u32 0, .int .u32 0, .slice none 0 0]] w fun e w' => e = .returned (.tuple #[.agg #[.int .u16 0, .int .u8 0, .int .u8 0, .int .u32 0, .int .u32 0, .int .i32 0, .int .u16 0, .int .u16 0, .slice none 0 0], .int .i64 21]) ∧ Touch (fun _ => False) w w' :=
  encode_bad lvH6 lvH6_all BV.zero lvZ_ok lvZ_light none none none 0 0 0 w (nil_barg w BV.zero rfl rfl rfl) (by decide)
theorem lv_whole : whole ((headB (sealH lvH lvL) ++ lvL).drop 2) = true := by decide +kernel
theorem lv_sum0 : sealS lvH lvL ≠ 0 := by decide +kernel
theorem lv_sealAll : (sealH lvH lvL).All := by
  refine ⟨by decide, by decide, by decide, by decide, by decide, by decide, ?_, by decide⟩
  show 0 ≤ sealS lvH lvL ∧ sealS lvH lvL < 65536
  decide +kernel
theorem lv_decB : decB 3 lvL = some lvB := by
  rw [← lv_lay]
  exact decB_layB lvB_ok ((mayB_iff _ _).1 lv_encok.may)
theorem lv_chkE : chkE (sealH lvH lvL) lvL = 0 := by
  have h5 : decB (sealH lvH lvL).typ lvL = some lvB := lv_decB
  unfold chkE
  rw [if_neg (by decide), if_neg (by rintro (q | q); exact lv_sum0 q; rw [lv_whole] at q; cases q), if_neg (by decide), if_neg (by decide), if_neg (by rw [h5]; simp)]
theorem lv_dec (u : Value) (w : World) (hv : ArgAt w u lvL) : Calls Tryz.prog 17 #[(sealH lvH lvL).sv u] w fun e w' => ∃ (a1 : Option Addr) (q1 : Nat) (a3 : Option Addr) (q3 : Nat) (a8 : Option Addr) (q8 : Nat), e = .returned (.tuple #[.agg #[.int .u8 0, .slice a1 0 q1, .int .u32 4294967040, .slice a3 0 q3, .int .u32 10, .bool false, .int .u32 0, .int .u32 0, .slice a8 0 q8], .int .i64 0]) ∧ Touch (fun _ => False) w w' := by
  refine (decode_good (sealH lvH lvL) lv_sealAll u lvL w lvB hv lv_byte (by decide) (by decide) lv_decB).mono ?_
  rintro e w' ⟨vl, vr, vd, rfl, o, t⟩
  obtain ⟨a1, q1, a3, q3, a8, q8, rfl, rfl, rfl⟩ := o.form
  exact ⟨a1, q1, a3, q3, a8, q8, rfl, t⟩
theorem lv_chk (u : Value) (w : World) (hv : ArgAt w u lvL) : Calls Tryz.prog 21 #[(sealH lvH lvL).sv u] w fun e w' => e = .returned (.int .i64 0) ∧ Touch (fun _ => False) w w' := by
  have := check_any (sealH lvH lvL) lv_sealAll u lvL w hv lv_byte (by decide)
  rwa [lv_chkE] at this
set_option maxHeartbeats 1000000 in
theorem lives6 (w : World) : Calls Tryz.prog 7 #[] w fun e w' => e = .returned (.bool true) ∧ Touch (fun _ => False) w w' := by
  go_enter Tryz.func7, Tryz.ntmps7
  go_wp2_with fail
  refine Calls.mono (lv_enc _) ?_
  rintro e w1 ⟨u, rfl, b1⟩
  obtain ⟨ua, uc, rfl⟩ := b1.form
  have HD := fun w h => lv_dec (.slice ua lvL.length uc) w h
  have HCk := fun w h => lv_chk (.slice ua lvL.length uc) w h
  have B1 : Hid (Buf w w1 (.slice ua lvL.length uc) lvL) := b1
  have e8 : lvL.length = 8 := rfl
  clear b1
  unfold HV.sv sealH at HD HCk ⊢
  simp only [lvH] at HD HCk ⊢
  generalize sealS _ lvL = SS at HD HCk ⊢
  have e28 : (20 : Int) + (lvL.length : Int) = 28 := rfl
  simp only [e28] at HD HCk ⊢
  simp only [e8] at HD HCk ⊢
  replace B1 : Hid (Buf w w1 (.slice ua 8 uc) lvL) := B1
  clear e28 e8
  have S1 : Sd (w1.alloc (.cells #[.int .u16 0, .int .u8 0, .int .u8 3, .int .u32 0, .int .u32 0, .int .i32 1, .int .u16 SS, .int .u16 28, .slice ua 8 uc] 35)) w1.heap.size ⟨0, 0, 3, 0, 0, 1, SS, 28⟩ (.slice ua 8 uc) := Sd.new w1 ⟨0, 0, 3, 0, 0, 1, SS, 28⟩ (.slice ua 8 uc) 35
  go_wp2_with fail
  refine Calls.mono (HD _ (B1.out.arg.keepN ((Touch.refl _ _).alloc _))) ?_
  rintro e w2 ⟨a1, q1, a3, q3, a8, q8, rfl, t2⟩
  have HS2 : Hid (Sd w2 w1.heap.size ⟨0, 0, 3, 0, 0, 1, SS, 28⟩ (.slice ua 8 uc)) := S1.keep t2
  have T2 : Hid (Touch (fun _ => False) w1 w2) := ((Touch.refl _ w1).alloc _).trans t2
  have m2 : (w2.alloc (.cells #[.int .u8 0, .slice a1 0 q1, .int .u32 4294967040, .slice a3 0 q3, .int .u32 10, .bool false, .int .u32 0, .int .u32 0, .slice a8 0 q8] 30)).cell? ⟨w2.heap.size, 4, none⟩ = some (.int .u32 10) := by simp [go_sem]
  clear S1 t2 HD
  go_wp2_with fail
  refine Calls.mono (lv_enc6 _) ?_
  rintro e w3 ⟨rfl, t3⟩
  have c3 := t3.cellN m2
  have T3 : Hid (Touch (fun _ => False) w1 w3) := (T2.out.alloc _).trans t3
  have h3 : w2.heap.size < w3.heap.size := lt_of_cell c3
  obtain ⟨⟨s0, s1, s2, s3, s4, s5, s6, s7⟩, s8⟩ := (HS2.out.keep ((Touch.refl _ _).alloc _)).keep t3
  dsimp only at s0 s1 s2 s3 s4 s5 s6 s7
  have h31 : w1.heap.size < w3.heap.size := lt_of_cell s0
  clear m2 t3 HS2 T2
  have hx1 : ¬ w1.heap.size = w3.heap.size := by omega
  have hx2 : ¬ w2.heap.size = w3.heap.size := by omega
  go_wp2_with fail
  refine Calls.mono (HCk _ ((B1.out.arg.keepN T3.out).keepN ((Touch.refl _ _).alloc _))) ?_
  rintro e w4 ⟨rfl, t4⟩
  have T4 : Hid (Touch (fun _ => False) w w4) := (B1.out.t.trans (T3.out.alloc _)).trans t4
  clear t4 HCk s0 s1 s2 s3 s4 s5 s6 s7 s8 c3
  go_wp2
  go_ret
  exact ⟨rfl, T4.out⟩
end Go.Proofs.YthdkihnmeoacaaaGreatDoor
