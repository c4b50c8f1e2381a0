import Derived.Test.YtddbffoiadmffaaGreatStaVal
import Derived.Laws.BitsAllLaws
import Derived.Deep.LoopGhost
import Derived.Deep.RegionWith
import Derived.Deep.DeepCutAuto
import Derived.Test.YtddbffoiadmffaaGreatStHead
import Derived.Test.YtddbffoiadmffaaGreatNumber
import Derived.Test.YtddbffoiadmffaaGreatWrAll2
namespace Go.Proofs.YtddbffoiadmffaaGreat
open Go.RowKit
set_option linter.unusedVariables false
set_option maxRecDepth 100000
structure Two (w:World) (b:Nat) (x y:Int):Prop where
 c0:w.cell? ⟨b,0,none⟩=some (.int .u32 x)
 c1:w.cell? ⟨b,1,none⟩=some (.int .u32 y)
 f0:w.frozen? ⟨b,0,none⟩=false
 f1:w.frozen? ⟨b,1,none⟩=false
theorem Two.lt {w:World} {b:Nat} {x y:Int} (h:Two w b x y):b<w.heap.size:=lt_of_cell h.c0
theorem Two.keep {w w':World} {b:Nat} {x y:Int} (h:Two w b x y) (t:Touch (fun _=>False) w w'):Two w' b x y :=
 ⟨t.cellN h.c0,t.cellN h.c1,(t.frozen h.lt (fun h=>h)).trans h.f0,(t.frozen h.lt (fun h=>h)).trans h.f1⟩
theorem Two.drew {w:World} {b:Nat} {x y:Int} (h:Two w b x y):Two w.drew b x y:=h.keep ((Touch.refl _ _).drew)
theorem Two.set0 {w:World} {b:Nat} {x y:Int} (h:Two w b x y) (z:Int):Two (w.setCell ⟨b,0,none⟩ (.int .u32 z)) b z y:=by
 obtain ⟨h0,h1,h2,h3⟩:=h
 exact ⟨by simp [h0,go_sem],by simp [h1,go_sem],by simp [h2,go_sem],by simp [h3,go_sem]⟩
theorem Two.set1 {w:World} {b:Nat} {x y:Int} (h:Two w b x y) (z:Int):Two (w.setCell ⟨b,1,none⟩ (.int .u32 z)) b x z:=by
 obtain ⟨h0,h1,h2,h3⟩:=h
 exact ⟨by simp [h0,go_sem],by simp [h1,go_sem],by simp [h2,go_sem],by simp [h3,go_sem]⟩
theorem Touch.new {w0 w:World} (t:Touch (fun _=>False) w0 w) {p:Addr} (h:w0.heap.size≤p.block) (u:Value):Touch (fun _=>False) w0 (w.setCell p u):=t.setCell (Or.inr h) u
theorem rowAt_cap {w:World} {g off c:Nat} {rs:List Int} (h:RowAt w (.slice (some ⟨g,off,none⟩) rs.length c) rs):rs.length≤c:=by
 rcases h with ⟨h,_⟩ | ⟨g',off',c',h,h1,_⟩
 ·cases h
 ·cases h; exact h1
theorem rowAt_drop {w:World} {g off c:Nat} {rs:List Int} (h:RowAt w (.slice (some ⟨g,off,none⟩) rs.length c) rs) (n:Nat) (hn:n≤rs.length):RowAt w (.slice (some ⟨g,off+n,none⟩) (rs.length - n) (c - n)) (rs.drop n):=by
 rcases h with ⟨h,_⟩ | ⟨g',off',c',h,h1,h2,h3⟩
 ·cases h
 ·cases h
  refine Or.inr ⟨g,off+n,c - n,by simp,by simp; omega,by omega,fun j u hj=>?_⟩
  rw [Nat.add_assoc]
  refine h3 (n+j) u ?_
  simpa [bytesOf,List.getElem?_drop] using hj
def modv (a b i:Int):Int:=(if i=0 then a else b) % 255
theorem mod_x (a b i:Int) (w:World) (hi:i=0∨i=1) (h0:0≤a) (h1:a<4294967296) (k0:0≤b) (k1:b<4294967296) :
  Calls Tryz.prog 196 #[.agg #[.int .u32 a,.int .u32 b],.int .i64 i] w fun e w'=>e=.returned (.int .u32 (modv a b i))∧w'=w.alloc (.cells #[.int .u32 a,.int .u32 b] 313):=by
 rcases hi with rfl | rfl
 all_goals
  go_enter Tryz.func196,Tryz.ntmps196
  go_wp2
  go_ret
  exact ⟨rfl,rfl⟩
def SOut (w0:World) (b:Nat) (l rs:List Int) (g:Nat) (s:Value) (wr:World):Prop :=
 ∃ (pre rest:List Int) (h k:Int),rest.length≤g∧pre ++ rest=rs∧ArgAt w0 s rest∧Two wr b h k∧Run (l ++ pre) h k∧0≤h∧0≤k∧h<4294967296∧k<4294967296∧Touch (fun _=>False) w0 wr
def SIn (w0:World) (b:Nat) (l pre rest:List Int) (g:Nat) (i:Value) (wr:World):Prop :=
 ∃ (j:Nat) (h k:Int),j+g=rest.length∧j≤4096∧i=.int .i64 (j:Int)∧Two wr b h k∧Run ((l ++ pre) ++ rest.take j) h k∧0≤h∧0≤k∧h≤254+255 * (j:Int)∧k≤254+1044734 * (j:Int)∧Touch (fun _=>False) w0 wr
set_option maxHeartbeats 4000000 in
theorem sadd_any (w0:World) (b:Nat) (v:Value) (l rs:List Int) (h k:Int) (w:World) (hv:ArgAt w0 v rs) (hby:∀ x∈rs,0≤x∧x<256) (hc:Two w b h k) (hr:Run l h k) (h0:0≤h) (k0:0≤k) (h1:h<4294967296) (k1:k<4294967296)
  (hb0:w0.heap.size≤b) (t:Touch (fun _=>False) w0 w) :
  Calls Tryz.prog 195 #[.pointer (some ⟨b,0,none⟩),v] w fun e w'=>e=.returned (.tuple #[])∧(∃ h k,Two w' b h k∧Run (l ++ rs) h k∧0≤h∧0≤k∧h<4294967296∧k<4294967296)∧Touch (fun _=>False) w0 w':=by
 have HBy:Hid (∀ x∈rs,0≤x∧x<256):=hby
 have hW:SOut w0 b l rs rs.length v w:=⟨[],rs,h,k,Nat.le_refl _,rfl,hv,hc,by simpa using hr,h0,k0,h1,k1,t⟩
 clear hv hby hc hr h0 k0 h1 k1 t
 go_enter Tryz.func195,Tryz.ntmps195
 go_wp2
 go_step3
 go_wp2
 go_step3
 go_wp2
 go_loopg [1] rs.length (fun g s wx=>SOut w0 b l rs g s wx)
 case atStart=>exact hW
 case round =>
  obtain ⟨pre,rest,h,k,hg,hrs,hs,hc,hr,h0,k0,h1,k1,t⟩:=hrel
  have HR:Hid (pre ++ rest=rs):=hrs
  have HRU:Hid (Run (l ++ pre) h k):=hr
  have HC:Hid (Two wr b h k):=hc
  have HT:Hid (Touch (fun _=>False) w0 wr):=t
  obtain ⟨c0,c1,f0,f1⟩:=hc
  have hbl:=lt_of_cell c0
  obtain ⟨sa,sc,rfl,hm⟩:=hs.form
  unfold maxLen at hm
  have HS:Hid (ArgAt w0 (.slice sa rest.length sc) rest):=hs
  have hm0:modv h k 0=h % 255:=rfl
  have hm1:modv h k 1=k % 255:=rfl
  clear hW hrs hr t hs
  go_wp2_with fail
  go_region_with (go_at_call 196; refine (mod_x h k _ _ (by decide) h0 h1 k0 k1).mono ?_; rintro e w2 ⟨rfl,rfl⟩)
  all_goals
   have hc1:Two (((((wr.setCell ⟨b,0,none⟩ (.int .u32 (h % 255))).setCell ⟨b,1,none⟩ (.int .u32 (k % 255))).alloc (.cells #[.int .u32 h,.int .u32 k] 313)).alloc (.cells #[.int .u32 h,.int .u32 k] 313)).drew) b (h % 255) (k % 255):=((HC.out.set0 _).set1 _).keep ((((Touch.refl _ _).alloc _).alloc _).drew)
   have t1:Touch (fun _=>False) w0 (((((wr.setCell ⟨b,0,none⟩ (.int .u32 (h % 255))).setCell ⟨b,1,none⟩ (.int .u32 (k % 255))).alloc (.cells #[.int .u32 h,.int .u32 k] 313)).alloc (.cells #[.int .u32 h,.int .u32 k] 313)).drew):=((((HT.out.new (p:=⟨b,0,none⟩) hb0 _).new (p:=⟨b,1,none⟩) hb0 _).alloc _).alloc _).drew
   revert hc1 t1
   generalize ((((wr.setCell ⟨b,0,none⟩ (.int .u32 (h % 255))).setCell ⟨b,1,none⟩ (.int .u32 (k % 255))).alloc (.cells #[.int .u32 h,.int .u32 k] 313)).alloc (.cells #[.int .u32 h,.int .u32 k] 313)).drew=wc
   intro hc1 t1
   have hI:SIn w0 b l pre rest rest.length (.int .i64 ((0:Nat):Int)) wc:=⟨0,_,_,by omega,by omega,rfl,hc1,by simpa using HRU.out.mod,by omega,by omega,by omega,by omega,t1⟩
   clear hc1 t1 HC HT hm0 hm1 c0 c1 f0 f1 hbl
   go_wp2_with fail
   go_loopg [1,22] rest.length (fun g s i wx=>s=.slice sa rest.length sc∧SIn w0 b l pre rest g i wx)
   case atStart=>exact ⟨rfl,hI⟩
   case round =>
    obtain ⟨rfl,j,h,k,hj,hj1,rfl,hc,hr,h0,k0,hh,hk,t⟩:=hrel
    have HT:Hid (Touch (fun _=>False) w0 wr):=t
    have HC:Hid (Two wr b h k):=hc
    obtain ⟨c0,c1,f0,f1⟩:=hc
    have HW:Hid (Run ((l ++ pre) ++ rest.take j) h k):=hr
    clear hI hr t
    by_cases hlt:j<rest.length
    ·have hs:=HS.out.row (by omega)
     obtain ⟨ga,oa,rfl⟩:=rowAt_some hs (by omega)
     have hcx:=HT.out.cellN (rowAt_cell hs j hlt)
     have HZ:Hid (rest.take (j+1)=rest.take j ++ [rest.getD j 0]):=by
      show _=_
      rw [List.take_add_one,List.getElem?_eq_getElem hlt]
      simp [List.getD,hlt]
     have hz:0≤rest.getD j 0∧rest.getD j 0<256:=HBy.out _ (by rw [← HR.out]; exact List.mem_append_right _ (by simp [List.getD,hlt]))
     revert hcx HZ hz
     generalize rest.getD j 0=z
     intro hcx HZ hz
     obtain ⟨hz0,hz1⟩:=hz
     by_cases hq:j=4096
     ·subst hq
      have hcap:=rowAt_cap hs
      have HN:Hid (SOut w0 b l rs (rest.length - 4096) (.slice (some ⟨ga,oa+4096,none⟩) (rest.length - 4096) (sc - 4096)) wr) :=
       ⟨pre ++ rest.take 4096,rest.drop 4096,h,k,by simp,by rw [List.append_assoc,List.take_append_drop]; exact HR.out,(rowAt_drop hs 4096 (by omega)).arg,HC.out,by rw [← List.append_assoc]; exact HW.out,h0,k0,by omega,by omega,HT.out⟩
      have hlt':(4096:Int)<(rest.length:Int):=by omega
      have hcap':(rest.length:Int)≤(sc:Int):=by omega
      clear hs
      go_wp2_with fail
      go_roundg (rest.length - 4096)
      case measure=>omega
      case rel=>exact HN.out
     ·clear hs
      have hq':((j:Int) == 4096)=false:=by simp; omega
      have HN:Hid (SIn w0 b l pre rest (rest.length - (j+1)) (.int .i64 ((j:Int)+1)) (((wr.setCell ⟨b,0,none⟩ (.int .u32 (h+z))).setCell ⟨b,1,none⟩ (.int .u32 (k+(h+z)))).drew.drew)) :=
       ⟨j+1,h+z,k+(h+z),by omega,by omega,by rw [Int.natCast_add]; rfl,((HC.out.set0 _).set1 _).drew.drew,by rw [HZ.out,← List.append_assoc]; exact HW.out.snoc z,by omega,by omega,by omega,by omega,(((HT.out.new (p:=⟨b,0,none⟩) hb0 _).new (p:=⟨b,1,none⟩) hb0 _).drew).drew⟩
      clear hq
      go_wp2_with fail
      go_region
      go_wp2_with fail
      go_region
      go_wp2
      go_roundg (rest.length - (j+1))
      case measure=>omega
      case rel=>exact ⟨rfl,HN.out⟩
    ·obtain rfl:j=rest.length:=by omega
     have HE:Hid (Run (l ++ rs) h k):=by
      have:=HW.out
      rw [List.take_length,List.append_assoc,HR.out] at this
      exact this
     go_wp2_with fail
     rw [Exit.noGoto_ret]
     refine bodyPost_ret (results_none rfl _ _ _) rfl ?_
     exact ⟨rfl,⟨h,k,HC.out,HE.out,h0,k0,by omega,by omega⟩,HT.out⟩
structure SFun (v:Value) (rs:List Int):Prop where
 ex:∃ h k:Int,v=.func (.func 196) #[.agg #[.int .u32 h,.int .u32 k]] #[]∧Run rs h k∧0≤h∧0≤k∧h<4294967296∧k<4294967296
structure PartAt (w:World) (pg i:Nat) (p:Value×List Int):Prop where
 cell:w.cell? ⟨pg,i,none⟩=some p.1
 arg:ArgAt w p.1 p.2
 byte:∀ x∈p.2,0≤x∧x<256
def PR (w:World) (b:Nat) (ps:List (Value×List Int)) (g:Nat) (i:Value) (wr:World):Prop :=
 ∃ (j:Nat) (h k:Int),j+g=ps.length∧i=.int .i64 (j:Int)∧Two wr b h k∧Run ((ps.take j).map Prod.snd).flatten h k∧0≤h∧0≤k∧h<4294967296∧k<4294967296∧Touch (fun _=>False) w wr
theorem addBytes_any (pg:Nat) (ps:List (Value×List Int)) (w:World) (hn:ps.length≤1000) (hp:∀ i p,ps[i]?=some p→PartAt w pg i p) :
  Calls Tryz.prog 171 #[.slice (some ⟨pg,0,none⟩) ps.length ps.length] w fun e w'=>(∃ f,e=.returned f∧SFun f (ps.map Prod.snd).flatten)∧Touch (fun _=>False) w w':=by
 have hmf:∀ (fn:Fn) (first cap:Array Value) (w:World),(Instr.makeFunc fn first cap).run Tryz.prog w=.ok (.func fn first cap) w:=fun _ _ _ _=>rfl
 have HP:Hid (∀ i p,ps[i]?=some p→PartAt w pg i p):=hp
 clear hp
 go_enter Tryz.func171,Tryz.ntmps171
 go_wp2
 go_loopg [8] ps.length (fun g i wx=>PR w w.heap.size ps g i wx)
 case atStart=>exact ⟨0,0,0,by omega,rfl,⟨by simp,by simp,by simp,by simp⟩,Run.zero,by omega,by omega,by omega,by omega,(Touch.refl _ w).alloc _⟩
 case round =>
  obtain ⟨j,h,k,hj,rfl,hc,hr,h0,k0,h1,k1,t⟩:=hrel
  by_cases hlt:j<ps.length
  ·obtain ⟨⟨pv,pl⟩,hpj⟩:∃ p,ps[j]?=some p:=⟨_,List.getElem?_eq_getElem hlt⟩
   obtain ⟨pc,pa,pb⟩:=HP.out j _ hpj
   have HTk:Hid ((ps.take (j+1)).map Prod.snd=(ps.take j).map Prod.snd ++ [pl]):=by
    show _=_
    rw [List.take_add_one,hpj]
    simp
   have hcx:wr.cell? ⟨pg,j,none⟩=some pv:=t.cellN pc
   have HS:=sadd_any w w.heap.size pv _ pl h k wr pa pb hc hr h0 k0 h1 k1 (Nat.le_refl _) t
   clear hpj pc pa pb hc hr t
   go_wp2_with fail
   refine HS.mono ?_
   rintro e w2 ⟨rfl,⟨h',k',hc',hr',h0',k0',h1',k1'⟩,t'⟩
   have HN:Hid (PR w w.heap.size ps (ps.length - (j+1)) (.int .i64 ((j:Int)+1)) w2):=⟨j+1,h',k',by omega,by rw [Int.natCast_add]; rfl,hc',by rw [HTk.out,List.flatten_append]; simpa using hr',h0',k0',h1',k1',t'⟩
   clear HS hc' hr' t'
   go_wp2_with fail
   go_roundg (ps.length - (j+1))
   case measure=>omega
   case rel=>exact HN.out
  ·obtain rfl:j=ps.length:=by omega
   rw [List.take_length] at hr
   have HR:Hid (Run (ps.map Prod.snd).flatten h k):=hr
   have HT:Hid (Touch (fun _=>False) w wr):=t
   obtain ⟨c0,c1,f0,f1⟩:=hc
   clear hr t
   go_wp2
   go_ret
   exact ⟨⟨_,rfl,⟨h,k,rfl,HR.out,h0,k0,h1,k1⟩⟩,HT.out⟩
theorem add1 (pg:Nat) (v:Value) (l:List Int) (w:World) (c:w.cell? ⟨pg,0,none⟩=some v) (a:ArgAt w v l) (hb:∀ x∈l,0≤x∧x<256) :
  Calls Tryz.prog 171 #[.slice (some ⟨pg,0,none⟩) 1 1] w fun e w'=>(∃ f,e=.returned f∧SFun f l)∧Touch (fun _=>False) w w':=by
 have:=addBytes_any pg [(v,l)] w (by simp) (fun i p h=>by
  match i,h with
  | 0,h=>simp at h; subst h; exact ⟨c,a,hb⟩
  | i+1,h=>simp at h)
 simpa using this
set_option maxHeartbeats 1000000 in
theorem swhole_any (v:Value) (rs:List Int) (w:World) (hv:ArgAt w v rs) (hby:∀ x∈rs,0≤x∧x<256) :
  Calls Tryz.prog 142 #[v] w fun e w'=>e=.returned (.bool (whole rs))∧Touch (fun _=>False) w w':=by
 obtain ⟨B,hB⟩:∃ B,whole rs=B:=⟨_,rfl⟩
 have HB:Hid (whole rs=B):=hB
 rw [hB]
 clear hB
 obtain ⟨va,vc,rfl,hm⟩:=hv.form
 go_enter Tryz.func142,Tryz.ntmps142
 go_wp2_with fail
 refine (add1 _ (.slice va rs.length vc) rs _ ?pcell ?parg hby).mono ?_
 case pcell=>simp
 case parg=>exact hv.keep ((Touch.refl (fun _=>False) w).alloc _) (fun _ _ h=>h)
 rintro e w1 ⟨⟨f,rfl,⟨h,k,rfl,hr,h0,k0,h1,k1⟩⟩,t1⟩
 have HT:Hid (Touch (fun _=>False) w w1):=((Touch.refl _ w).alloc _).trans t1
 have hr0:=hr.c0
 have hr1:=hr.c1
 have hm0:modv h k 0=h % 255:=rfl
 have hm1:modv h k 1=k % 255:=rfl
 clear hv hby t1 hr
 by_cases e0:h % 255=0
 ·by_cases e1:k % 255=0
  ·have HBt:Hid (B=true):=by show _=_; rw [← HB.out,whole_iff]; exact ⟨by omega,by omega⟩
   clear hr0 hr1
   go_wp2_with fail
   refine (mod_x h k 0 _ (Or.inl rfl) h0 h1 k0 k1).mono ?_
   rintro e w2 ⟨rfl,rfl⟩
   go_wp2_with fail
   refine (mod_x h k 1 _ (Or.inr rfl) h0 h1 k0 k1).mono ?_
   rintro e w2 ⟨rfl,rfl⟩
   go_wp2
   go_ret
   rw [HBt.out]
   exact ⟨rfl,(HT.out.alloc _).alloc _⟩
  ·have e1':(k % 255 == 0)=false:=by simpa using e1
   have HBt:Hid (B=false):=by show _=_; rw [← HB.out,← Bool.not_eq_true,whole_iff]; rintro ⟨_,q⟩; omega
   clear hr0 hr1
   go_wp2_with fail
   refine (mod_x h k 0 _ (Or.inl rfl) h0 h1 k0 k1).mono ?_
   rintro e w2 ⟨rfl,rfl⟩
   go_wp2_with fail
   refine (mod_x h k 1 _ (Or.inr rfl) h0 h1 k0 k1).mono ?_
   rintro e w2 ⟨rfl,rfl⟩
   go_wp2
   go_ret
   rw [HBt.out]
   exact ⟨rfl,(HT.out.alloc _).alloc _⟩
 ·have e0':(h % 255 == 0)=false:=by simpa using e0
  have HBt:Hid (B=false):=by show _=_; rw [← HB.out,← Bool.not_eq_true,whole_iff]; rintro ⟨q,_⟩; omega
  clear hr0 hr1
  go_wp2_with fail
  refine (mod_x h k 0 _ (Or.inl rfl) h0 h1 k0 k1).mono ?_
  rintro e w2 ⟨rfl,rfl⟩
  go_wp2
  go_ret
  rw [HBt.out]
  exact ⟨rfl,HT.out.alloc _⟩
def Room (w:World) (g n:Nat):Prop:=∀ i,i<n→∃ v,w.cell? ⟨g,i,none⟩=some v∧w.frozen? ⟨g,i,none⟩=false
theorem Room.keep {w w':World} {g n:Nat} (h:Room w g n) (t:Touch (fun _=>False) w w'):Room w' g n:=fun i hi=>by
 obtain ⟨v,hc,hf⟩:=h i hi
 exact ⟨v,t.cellN hc,(t.frozen (p:=⟨g,i,none⟩) (lt_of_cell hc) (fun h=>h)).trans hf⟩
theorem Room.touch {F:Nat→Prop} {w w':World} {g n:Nat} (h:Room w g n) (t:Touch F w w') (hF:¬ F g):Room w' g n:=fun i hi=>by
 obtain ⟨v,hc,hf⟩:=h i hi
 exact ⟨v,(t.cell (p:=⟨g,i,none⟩) (lt_of_cell hc) hF).trans hc,(t.frozen (p:=⟨g,i,none⟩) (lt_of_cell hc) hF).trans hf⟩
theorem Room.new (w:World) (C:Array Value) (t:TypeId):Room (w.alloc (.cells C t)) w.heap.size C.size:=fun i hi=>⟨C[i],by simp [go_sem,hi],by simp [go_sem]⟩
theorem Out.fits {w:World} {g:Nat} {h:HV} {v:Value} (k:Out w g h v):Sd w g h v∧(w.frozen? ⟨g,6,none⟩=false∧w.frozen? ⟨g,7,none⟩=false∧w.frozen? ⟨g,8,none⟩=false):=⟨k.sd,k.fz 6 (by omega),k.fz 7 (by omega),k.fz 8 (by omega)⟩
def stepR (len p:Nat) (err n:Int):Nat×Int×Bool :=
 if err=0 then (if n<0 then (p,1,false) else if (len:Int)<p+n then (p,10,false) else (p+n.toNat,0,true)) else (p,err,false)
def gotR (rs:List Int) (p:Nat) (err n:Int):List Int:=if (stepR rs.length p err n).2.2=true then (rs.drop p).take n.toNat else []
theorem stepR_dead (len p:Nat) (err n:Int) (h:¬ err=0):stepR len p err n=(p,err,false):=by simp [stepR,h]
theorem stepR_arg (len p:Nat) (n:Int) (h:n<0):stepR len p 0 n=(p,1,false):=by simp [stepR,h]
theorem stepR_short (len p:Nat) (n:Int) (h:¬ n<0) (h2:(len:Int)<p+n):stepR len p 0 n=(p,10,false):=by simp [stepR,h,h2]
theorem stepR_ok (len p:Nat) (n:Int) (h:¬ n<0) (h2:¬ (len:Int)<p+n):stepR len p 0 n=(p+n.toNat,0,true):=by simp [stepR,h,h2]
theorem cut_dead (b p:Nat) (n err:Int) (rv:Value) (rs:List Int) (w:World) (h:RdS w b rv rs p err) (he:¬ err=0) :
  Calls Tryz.prog 250 #[.pointer (some ⟨b,0,none⟩),.int .i64 n] w fun e w'=>e=.returned (.slice none 0 0)∧w=w':=by
 have h0:=h.made
 have h3:=h.err
 have he':(err == 0)=false:=by simpa using he
 by_cases hn:n<0
 ·go_enter Tryz.func250,Tryz.ntmps250
  go_wp2_with (first | (go_at_call 249; refine (refuse_dead _ _ _ _ h0 h3 he').mono ?_; rintro e w' ⟨rfl,rfl⟩) | (go_at_call 214; refine (rwhole_any _ _ _ h0 h3).mono ?_; rintro e w' ⟨rfl,rfl⟩))
  go_ret
  exact ⟨rfl,rfl⟩
 ·by_cases hp:0<n
  all_goals
   go_enter Tryz.func250,Tryz.ntmps250
   go_wp2_with (first | (go_at_call 179; refine (left_dead _ _ _ h0 h3 he').mono ?_; rintro e w' ⟨rfl,rfl⟩) | (go_at_call 249; refine (refuse_dead _ _ _ _ h0 h3 he').mono ?_; rintro e w' ⟨rfl,rfl⟩) | (go_at_call 214; refine (rwhole_any _ _ _ h0 h3).mono ?_; rintro e w' ⟨rfl,rfl⟩))
   go_ret
   exact ⟨rfl,rfl⟩
theorem cut_arg (b p:Nat) (n:Int) (rv:Value) (rs:List Int) (w:World) (h:RdS w b rv rs p 0) (hn:n<0) :
  Calls Tryz.prog 250 #[.pointer (some ⟨b,0,none⟩),.int .i64 n] w fun e w'=>e=.returned (.slice none 0 0)∧w.setCell ⟨b,3,none⟩ (.int .i64 1)=w':=by
 have h0:=h.made
 have h3:=h.err
 have hf:=h.f3
 have h':=h.setErr 1
 have k0:=h'.made
 have k3:=h'.err
 go_enter Tryz.func250,Tryz.ntmps250
 go_wp2_with (first | (go_at_call 249; refine (refuse_ok _ _ _ h0 h3 hf).mono ?_; rintro e w' ⟨rfl,rfl⟩) | (go_at_call 214; refine (rwhole_any _ 1 _ k0 k3).mono ?_; rintro e w' ⟨rfl,rfl⟩))
 go_ret
 exact ⟨rfl,rfl⟩
theorem cut_all (b p:Nat) (n err:Int) (rv:Value) (rs:List Int) (w:World) (h:RdS w b rv rs p err) (hn:n≤9223372036854775807) :
  Calls Tryz.prog 250 #[.pointer (some ⟨b,0,none⟩),.int .i64 n] w fun e w'=>∃ sv,e=.returned sv∧RowAt w' sv (gotR rs p err n)∧(sv.ownBlock=none∨sv.ownBlock=rv.ownBlock) ∧
   RdS w' b rv rs (stepR rs.length p err n).1 (stepR rs.length p err n).2.1∧Touch (fun k=>k=b) w w'∧w'.heap.size=w.heap.size:=by
 by_cases he:err=0
 ·subst he
  by_cases h0:n<0
  ·refine (cut_arg b p n rv rs w h h0).mono ?_
   rintro e w' ⟨rfl,rfl⟩
   refine ⟨_,rfl,?_,Or.inl rfl,?_,Touch.setCell (F:=fun k=>k=b) (p:=⟨b,3,none⟩) (Touch.refl _ w) (Or.inl rfl) _,by simp [World.setCell]⟩
   ·simp only [gotR,stepR_arg _ _ _ h0]; exact Or.inl ⟨rfl,by simp⟩
   ·rw [stepR_arg _ _ _ h0]; exact h.setErr 1
  ·by_cases h1:(rs.length:Int)<p+n
   ·refine (cut_short b p n rv rs w h h1 hn).mono ?_
    rintro e w' ⟨rfl,hr,ht,hs⟩
    refine ⟨_,rfl,?_,Or.inl rfl,?_,ht,hs⟩
    ·simp only [gotR,stepR_short _ _ _ h0 h1]; exact Or.inl ⟨rfl,by simp⟩
    ·rw [stepR_short _ _ _ h0 h1]; exact hr
   ·obtain ⟨m,rfl⟩:∃ m:Nat,n=m:=⟨n.toNat,by omega⟩
    refine (cut_ok b p m rv rs w h (by omega)).mono ?_
    rintro e w' ⟨sv,rfl,hrow,hob,hr,ht,hs⟩
    refine ⟨sv,rfl,?_,hob,?_,ht,hs⟩
    ·simp only [gotR,stepR_ok _ _ _ h0 h1,Int.toNat_natCast,if_true]; exact hrow
    ·rw [stepR_ok _ _ _ h0 h1]; simpa using hr
 ·refine (cut_dead b p n err rv rs w h he).mono ?_
  rintro e w' ⟨rfl,rfl⟩
  refine ⟨_,rfl,?_,Or.inl rfl,?_,Touch.refl _ _,rfl⟩
  ·simp only [gotR,stepR_dead _ _ _ _ he]; exact Or.inl ⟨rfl,by simp⟩
  ·rw [stepR_dead _ _ _ _ he]; exact h
theorem rnumber_dead (b p:Nat) (n err:Int) (rv:Value) (rs:List Int) (w:World) (h:RdS w b rv rs p err) (he:¬ err=0) :
  Calls Tryz.prog 234 #[.pointer (some ⟨b,0,none⟩),.int .i64 n] w fun e w'=>e=.returned (.int .u32 0)∧w=w':=by
 have g0:=h.made
 have g3:=h.err
 have he':(err == 0)=false:=by simpa using he
 by_cases h1:n<1
 ·go_enter Tryz.func234,Tryz.ntmps234
  go_wp2_with (go_at_call 249; refine (refuse_dead _ _ _ _ g0 g3 he').mono ?_; rintro e w' ⟨rfl,rfl⟩)
  go_ret
  exact ⟨rfl,rfl⟩
 ·have h1':decide (n<1)=false:=by simpa using h1
  by_cases h4:4<n
  ·go_enter Tryz.func234,Tryz.ntmps234
   go_wp2_with (go_at_call 249; refine (refuse_dead _ _ _ _ g0 g3 he').mono ?_; rintro e w' ⟨rfl,rfl⟩)
   go_ret
   exact ⟨rfl,rfl⟩
  ·have h4':decide (4<n)=false:=by simpa using h4
   go_enter Tryz.func234,Tryz.ntmps234
   go_wp2_with (go_at_call 250; refine (cut_dead _ _ _ _ _ _ _ h he).mono ?_; rintro e w' ⟨rfl,rfl⟩)
   go_rounds 1
   go_ret
   exact ⟨rfl,rfl⟩
theorem got_len (rs:List Int) (p:Nat) (err n:Int):(gotR rs p err n).length≤rs.length:=by
 unfold gotR
 split
 ·simp; omega
 ·simp
theorem rbytes_all (b p:Nat) (n err:Int) (rv:Value) (rs:List Int) (w:World) (h:RdS w b rv rs p err) (hn:n≤9223372036854775807) (hcap:rs.length≤1099511627776) :
  Calls Tryz.prog 237 #[.pointer (some ⟨b,0,none⟩),.int .i64 n] w fun e w'=>∃ v,e=.returned v∧w'.ownsRow w.heap.size 5 1 v (gotR rs p err n).length (bytesOf (gotR rs p err n)) ∧
   RdS w' b rv rs (stepR rs.length p err n).1 (stepR rs.length p err n).2.1∧Touch (fun k=>k=b) w w':=by
 have hgl:=got_len rs p err n
 have hbl:=lt_of_cell h.made
 have hcut:=cut_all b p n err rv rs w h hn
 generalize gotR rs p err n=got at hcut hgl ⊢
 generalize stepR rs.length p err n=st at hcut ⊢
 go_enter Tryz.func237,Tryz.ntmps237
 go_wp2_with fail
 refine hcut.mono ?_
 rintro e w1 ⟨sv,rfl,hrow,hob,hr,ht,hs⟩
 rcases hrow with ⟨rfl,rfl⟩ | ⟨g,off,c,rfl,hlc,hcm,hcells⟩
 ·go_wp2_with fail
  refine (clone_nil _).mono ?_
  rintro e w2 ⟨rfl,rfl⟩
  go_wp2
  go_ret
  exact ⟨_,rfl,World.ownsRow_nil _ _ _ _,hr,ht⟩
 ·go_wp2_with fail
  refine (clone_some ⟨g,off,none⟩ c got w1 (fun j u hj=>by rw [add_plain]; exact hcells j u hj) (by omega)).mono ?_
  rintro e w2 ⟨v,rfl,hown,t2,hne⟩
  go_wp2
  go_ret
  exact ⟨v,rfl,by rw [← hs]; exact hown,hr.touch t2 (fun h=>h) (fun _ _ h=>h),ht.trans' t2 (fun _ _ h=>h.elim)⟩
end Go.Proofs.YtddbffoiadmffaaGreat
