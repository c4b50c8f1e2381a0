import Derived.Test.YtldmkoogghemhaaGreatSumMath
import Derived.Laws.BitsAllLaws
import Derived.Test.YtldmkoogghemhaaGreatDigBuf
import Derived.Deep.LoopGhost
import Derived.Deep.RegionWith
import Derived.Deep.DeepCutAuto
namespace Go.Proofs.YtldmkoogghemhaaGreat
set_option maxHeartbeats 8000000
open Go.RowKit
set_option linter.unusedVariables false
set_option maxRecDepth 100000
structure Two (w:World) (b:Nat) (x y:Int):Prop where
 c0:w.cell? ⟨b,0,none⟩=some (.int .u32 x)
 c1:w.cell? ⟨b,1,none⟩=some (.int .u32 y)
 f0:w.frozen? ⟨b,0,none⟩=false
 f1:w.frozen? ⟨b,1,none⟩=false
theorem Two.lt {w:World} {b:Nat} {x y:Int} (h:Two w b x y):b<w.heap.size:=Qaa h.c0
theorem Two.keep {w w':World} {b:Nat} {x y:Int} (h:Two w b x y) (t:Touch (fun _=>False) w w'):Two w' b x y :=
 ⟨t.cellN h.c0,t.cellN h.c1,(t.frozen h.lt (fun h=>h)).trans h.f0,(t.frozen h.lt (fun h=>h)).trans h.f1⟩
theorem Two.drew {w:World} {b:Nat} {x y:Int} (h:Two w b x y):Two w.drew b x y:=h.keep ((Touch.refl _ _).drew)
theorem Two.set0 {w:World} {b:Nat} {x y:Int} (h:Two w b x y) (z:Int):Two (w.setCell ⟨b,0,none⟩ (.int .u32 z)) b z y:=by
 obtain⟨h0,h1,h2,h3⟩:=h
 exact⟨by simp [h0,go_sem],by simp [h1,go_sem],by simp [h2,go_sem],by simp [h3,go_sem]⟩
theorem Two.set1 {w:World} {b:Nat} {x y:Int} (h:Two w b x y) (z:Int):Two (w.setCell ⟨b,1,none⟩ (.int .u32 z)) b x z:=by
 obtain⟨h0,h1,h2,h3⟩:=h
 exact⟨by simp [h0,go_sem],by simp [h1,go_sem],by simp [h2,go_sem],by simp [h3,go_sem]⟩
theorem Touch.new {w0 w:World} (t:Touch (fun _=>False) w0 w) {p:Addr} (h:w0.heap.size≤p.block) (u:Value):Touch (fun _=>False) w0 (w.setCell p u):=t.setCell (Or.inr h) u
theorem Qjp {w:World} {g off c:Nat} {rs:List Int} (h:RowAt w (.slice (some ⟨g,off,none⟩) rs.length c) rs):rs.length≤c:=by
 rcases h with⟨h,_⟩|⟨g',off',c',h,h1,_⟩
 ·cases h
 ·cases h;exact h1
theorem Qho {w:World} {g off c:Nat} {rs:List Int} (h:RowAt w (.slice (some ⟨g,off,none⟩) rs.length c) rs) (n:Nat) (hn:n≤rs.length):RowAt w (.slice (some ⟨g,off+n,none⟩) (rs.length-n) (c-n)) (rs.drop n):=by
 rcases h with⟨h,_⟩|⟨g',off',c',h,h1,h2,h3⟩
 ·cases h
 ·cases h
  refine Or.inr ⟨g,off+n,c-n,by simp,by simp;omega,by omega,fun j u hj=>?_⟩
  rw [Nat.add_assoc]
  refine h3 (n+j) u ?_
  simpa [bytesOf,List.getElem?_drop] using hj
def modv (a b i:Int):Int:=(if i=0 then a else b)%255
theorem Qhh (a b i:Int) (w:World) (hi:i=0∨i=1) (h0:0≤a) (h1:a<4294967296) (k0:0≤b) (k1:b<4294967296) :
  Calls Tryz.prog 149 #[.agg #[.int .u32 a,.int .u32 b],.int .i64 i] w fun e w'=>e=.returned (.int .u32 (modv a b i))∧w'=w.alloc (.cells #[.int .u32 a,.int .u32 b] 208):=by
 rcases hi with rfl|rfl
 all_goals
  go_enter Tryz.func149,Tryz.ntmps149
  go_wp2
  go_ret
  exact⟨rfl,rfl⟩
def SOut (w0:World) (b:Nat) (l rs:List Int) (g:Nat) (s:Value) (wr:World):Prop :=
 ∃(pre rest:List Int) (h k:Int),rest.length≤g∧pre++rest=rs∧ArgAt w0 s rest∧Two wr b h k∧Run (l++pre) h k∧0≤h∧0≤k∧h<4294967296∧k<4294967296∧Touch (fun _=>False) w0 wr
def SIn (w0:World) (b:Nat) (l pre rest:List Int) (g:Nat) (i:Value) (wr:World):Prop :=
 ∃(j:Nat) (h k:Int),j+g=rest.length∧j≤4096∧i=.int .i64 (j:Int)∧Two wr b h k∧Run ((l++pre)++rest.take j) h k∧0≤h∧0≤k∧h≤254+255*(j:Int)∧k≤254+1044734*(j:Int)∧Touch (fun _=>False) w0 wr
theorem Qkw (w0:World) (b:Nat) (v:Value) (l rs:List Int) (h k:Int) (w:World) (hv:ArgAt w0 v rs) (hby:∀x∈rs,0≤x∧x<256) (hc:Two w b h k) (hr:Run l h k) (h0:0≤h) (k0:0≤k) (h1:h<4294967296) (k1:k<4294967296)
  (hb0:w0.heap.size≤b) (t:Touch (fun _=>False) w0 w) :
  Calls Tryz.prog 148 #[.pointer (some ⟨b,0,none⟩),v] w fun e w'=>e=.returned (.tuple #[])∧(∃h k,Two w' b h k∧Run (l++rs) h k∧0≤h∧0≤k∧h<4294967296∧k<4294967296)∧Touch (fun _=>False) w0 w':=by
 have HBy:Hid (∀x∈rs,0≤x∧x<256):=hby
 have hW:SOut w0 b l rs rs.length v w:=⟨[],rs,h,k,Nat.le_refl _,rfl,hv,hc,by simpa using hr,h0,k0,h1,k1,t⟩
 clear hv hby hc hr h0 k0 h1 k1 t
 go_enter Tryz.func148,Tryz.ntmps148
 go_wp2
 go_step3
 go_wp2
 go_step3
 go_wp2
 go_loopg [1] rs.length (fun g s wx=>SOut w0 b l rs g s wx)
 case atStart=>exact hW
 case round =>
  obtain⟨pre,rest,h,k,hg,hrs,hs,hc,hr,h0,k0,h1,k1,t⟩:=hrel
  have HR:Hid (pre++rest=rs):=hrs
  have HRU:Hid (Run (l++pre) h k):=hr
  have HC:Hid (Two wr b h k):=hc
  have HT:Hid (Touch (fun _=>False) w0 wr):=t
  obtain⟨c0,c1,f0,f1⟩:=hc
  have hbl:=Qaa c0
  obtain⟨sa,sc,rfl,hm⟩:=hs.form
  unfold maxLen at hm
  have HS:Hid (ArgAt w0 (.slice sa rest.length sc) rest):=hs
  have hm0:modv h k 0=h%255:=rfl
  have hm1:modv h k 1=k%255:=rfl
  clear hW hrs hr t hs
  go_wp2_with fail
  go_region_with (go_at_call 149;refine (Qhh h k _ _ (by decide) h0 h1 k0 k1).mono ?_;rintro e w2 ⟨rfl,rfl⟩)
  all_goals
   have hc1:Two (((((wr.setCell ⟨b,0,none⟩ (.int .u32 (h%255))).setCell ⟨b,1,none⟩ (.int .u32 (k%255))).alloc (.cells #[.int .u32 h,.int .u32 k] 208)).alloc (.cells #[.int .u32 h,.int .u32 k] 208)).drew) b (h%255) (k%255):=((HC.out.set0 _).set1 _).keep ((((Touch.refl _ _).alloc _).alloc _).drew)
   have t1:Touch (fun _=>False) w0 (((((wr.setCell ⟨b,0,none⟩ (.int .u32 (h%255))).setCell ⟨b,1,none⟩ (.int .u32 (k%255))).alloc (.cells #[.int .u32 h,.int .u32 k] 208)).alloc (.cells #[.int .u32 h,.int .u32 k] 208)).drew):=((((HT.out.new (p:=⟨b,0,none⟩) hb0 _).new (p:=⟨b,1,none⟩) hb0 _).alloc _).alloc _).drew
   revert hc1 t1
   generalize ((((wr.setCell ⟨b,0,none⟩ (.int .u32 (h%255))).setCell ⟨b,1,none⟩ (.int .u32 (k%255))).alloc (.cells #[.int .u32 h,.int .u32 k] 208)).alloc (.cells #[.int .u32 h,.int .u32 k] 208)).drew=wc
   intro hc1 t1
   have hI:SIn w0 b l pre rest rest.length (.int .i64 ((0:Nat):Int)) wc:=⟨0,_,_,by omega,by omega,rfl,hc1,by simpa using HRU.out.mod,by omega,by omega,by omega,by omega,t1⟩
   clear hc1 t1 HC HT hm0 hm1 c0 c1 f0 f1 hbl
   go_wp2_with fail
   go_loopg [1,22] rest.length (fun g s i wx=>s=.slice sa rest.length sc∧SIn w0 b l pre rest g i wx)
   case atStart=>exact⟨rfl,hI⟩
   case round =>
    obtain⟨rfl,j,h,k,hj,hj1,rfl,hc,hr,h0,k0,hh,hk,t⟩:=hrel
    have HT:Hid (Touch (fun _=>False) w0 wr):=t
    have HC:Hid (Two wr b h k):=hc
    obtain⟨c0,c1,f0,f1⟩:=hc
    have HW:Hid (Run ((l++pre)++rest.take j) h k):=hr
    clear hI hr t
    by_cases hlt:j<rest.length
    ·have hs:=HS.out.row (by omega)
     obtain⟨ga,oa,rfl⟩:=Qcv hs (by omega)
     have hcx:=HT.out.cellN (Qd2 hs j hlt)
     have HZ:Hid (rest.take (j+1)=rest.take j++[rest.getD j 0]):=by
      show _=_
      rw [List.take_add_one,List.getElem?_eq_getElem hlt]
      simp [List.getD,hlt]
     have hz:0≤rest.getD j 0∧rest.getD j 0<256:=HBy.out _ (by rw [←HR.out];exact List.mem_append_right _ (by simp [List.getD,hlt]))
     revert hcx HZ hz
     generalize rest.getD j 0=z
     intro hcx HZ hz
     obtain⟨hz0,hz1⟩:=hz
     by_cases hq:j=4096
     ·subst hq
      have hcap:=Qjp hs
      have HN:Hid (SOut w0 b l rs (rest.length-4096) (.slice (some ⟨ga,oa+4096,none⟩) (rest.length-4096) (sc-4096)) wr) :=
       ⟨pre++rest.take 4096,rest.drop 4096,h,k,by simp,by rw [List.append_assoc,List.take_append_drop];exact HR.out,(Qho hs 4096 (by omega)).arg,HC.out,by rw [←List.append_assoc];exact HW.out,h0,k0,by omega,by omega,HT.out⟩
      have hlt':(4096:Int)<(rest.length:Int):=by omega
      have hcap':(rest.length:Int)≤(sc:Int):=by omega
      clear hs
      go_wp2_with fail
      go_roundg (rest.length-4096)
      case measure=>omega
      case rel=>exact HN.out
     ·clear hs
      have hq':((j:Int)==4096)=false:=by simp;omega
      have HN:Hid (SIn w0 b l pre rest (rest.length-(j+1)) (.int .i64 ((j:Int)+1)) (((wr.setCell ⟨b,0,none⟩ (.int .u32 (h+z))).setCell ⟨b,1,none⟩ (.int .u32 (k+(h+z)))).drew.drew)) :=
       ⟨j+1,h+z,k+(h+z),by omega,by omega,by rw [Int.natCast_add];rfl,((HC.out.set0 _).set1 _).drew.drew,by rw [HZ.out,←List.append_assoc];exact HW.out.snoc z,by omega,by omega,by omega,by omega,(((HT.out.new (p:=⟨b,0,none⟩) hb0 _).new (p:=⟨b,1,none⟩) hb0 _).drew).drew⟩
      clear hq
      go_wp2_with fail
      go_region
      go_wp2_with fail
      go_region
      go_wp2
      go_roundg (rest.length-(j+1))
      case measure=>omega
      case rel=>exact⟨rfl,HN.out⟩
    ·obtain rfl:j=rest.length:=by omega
     have HE:Hid (Run (l++rs) h k):=by
      have:=HW.out
      rw [List.take_length,List.append_assoc,HR.out] at this
      exact this
     go_wp2_with fail
     rw [Exit.noGoto_ret]
     refine bodyPost_ret (results_none rfl _ _ _) rfl ?_
     exact⟨rfl,⟨h,k,HC.out,HE.out,h0,k0,by omega,by omega⟩,HT.out⟩
structure SFun (v:Value) (rs:List Int):Prop where
 ex:∃h k:Int,v=.func (.func 149) #[.agg #[.int .u32 h,.int .u32 k]] #[]∧Run rs h k∧0≤h∧0≤k∧h<4294967296∧k<4294967296
structure PartAt (w:World) (pg i:Nat) (p:Value×List Int):Prop where
 cell:w.cell? ⟨pg,i,none⟩=some p.1
 arg:ArgAt w p.1 p.2
 byte:∀x∈p.2,0≤x∧x<256
def PR (w:World) (b:Nat) (ps:List (Value×List Int)) (g:Nat) (i:Value) (wr:World):Prop :=
 ∃(j:Nat) (h k:Int),j+g=ps.length∧i=.int .i64 (j:Int)∧Two wr b h k∧Run ((ps.take j).map Prod.snd).flatten h k∧0≤h∧0≤k∧h<4294967296∧k<4294967296∧Touch (fun _=>False) w wr
theorem Qew (pg:Nat) (ps:List (Value×List Int)) (w:World) (hn:ps.length≤1000) (hp:∀i p,ps[i]?=some p→PartAt w pg i p) :
  Calls Tryz.prog 135 #[.slice (some ⟨pg,0,none⟩) ps.length ps.length] w fun e w'=>(∃f,e=.returned f∧SFun f (ps.map Prod.snd).flatten)∧Touch (fun _=>False) w w':=by
 have hmf:∀(fn:Fn) (first cap:Array Value) (w:World),(Instr.makeFunc fn first cap).run Tryz.prog w=.ok (.func fn first cap) w:=fun _ _ _ _=>rfl
 have HP:Hid (∀i p,ps[i]?=some p→PartAt w pg i p):=hp
 clear hp
 go_enter Tryz.func135,Tryz.ntmps135
 go_wp2
 go_loopg [8] ps.length (fun g i wx=>PR w w.heap.size ps g i wx)
 case atStart=>exact⟨0,0,0,by omega,rfl,⟨by simp,by simp,by simp,by simp⟩,Run.zero,by omega,by omega,by omega,by omega,(Touch.refl _ w).alloc _⟩
 case round =>
  obtain⟨j,h,k,hj,rfl,hc,hr,h0,k0,h1,k1,t⟩:=hrel
  by_cases hlt:j<ps.length
  ·obtain⟨⟨pv,pl⟩,hpj⟩:∃p,ps[j]?=some p:=⟨_,List.getElem?_eq_getElem hlt⟩
   obtain⟨pc,pa,pb⟩:=HP.out j _ hpj
   have HTk:Hid ((ps.take (j+1)).map Prod.snd=(ps.take j).map Prod.snd++[pl]):=by
    show _=_
    rw [List.take_add_one,hpj]
    simp
   have hcx:wr.cell? ⟨pg,j,none⟩=some pv:=t.cellN pc
   have HS:=Qkw w w.heap.size pv _ pl h k wr pa pb hc hr h0 k0 h1 k1 (Nat.le_refl _) t
   clear hpj pc pa pb hc hr t
   go_wp2_with fail
   refine HS.mono ?_
   rintro e w2 ⟨rfl,⟨h',k',hc',hr',h0',k0',h1',k1'⟩,t'⟩
   have HN:Hid (PR w w.heap.size ps (ps.length-(j+1)) (.int .i64 ((j:Int)+1)) w2):=⟨j+1,h',k',by omega,by rw [Int.natCast_add];rfl,hc',by rw [HTk.out,List.flatten_append];simpa using hr',h0',k0',h1',k1',t'⟩
   clear HS hc' hr' t'
   go_wp2_with fail
   go_roundg (ps.length-(j+1))
   case measure=>omega
   case rel=>exact HN.out
  ·obtain rfl:j=ps.length:=by omega
   rw [List.take_length] at hr
   have HR:Hid (Run (ps.map Prod.snd).flatten h k):=hr
   have HT:Hid (Touch (fun _=>False) w wr):=t
   obtain⟨c0,c1,f0,f1⟩:=hc
   clear hr t
   go_wp2
   go_ret
   exact⟨⟨_,rfl,⟨h,k,rfl,HR.out,h0,k0,h1,k1⟩⟩,HT.out⟩
theorem add1 (pg:Nat) (v:Value) (l:List Int) (w:World) (c:w.cell? ⟨pg,0,none⟩=some v) (a:ArgAt w v l) (hb:∀x∈l,0≤x∧x<256) :
  Calls Tryz.prog 135 #[.slice (some ⟨pg,0,none⟩) 1 1] w fun e w'=>(∃f,e=.returned f∧SFun f l)∧Touch (fun _=>False) w w':=by
 have:=Qew pg [(v,l)] w (by simp) (fun i p h=>by
  match i,h with
  | 0,h=>simp at h;subst h;exact⟨c,a,hb⟩
  | i+1,h=>simp at h)
 simpa using this
theorem Qbr (v:Value) (rs:List Int) (w:World) (hv:ArgAt w v rs) (hby:∀x∈rs,0≤x∧x<256) :
  Calls Tryz.prog 114 #[v] w fun e w'=>e=.returned (.bool (whole rs))∧Touch (fun _=>False) w w':=by
 obtain⟨B,hB⟩:∃B,whole rs=B:=⟨_,rfl⟩
 have HB:Hid (whole rs=B):=hB
 rw [hB]
 clear hB
 obtain⟨va,vc,rfl,hm⟩:=hv.form
 go_enter Tryz.func114,Tryz.ntmps114
 go_wp2_with fail
 refine (add1 _ (.slice va rs.length vc) rs _ ?pcell ?parg hby).mono ?_
 case pcell=>simp
 case parg=>exact hv.keep ((Touch.refl (fun _=>False) w).alloc _) (fun _ _ h=>h)
 rintro e w1 ⟨⟨f,rfl,⟨h,k,rfl,hr,h0,k0,h1,k1⟩⟩,t1⟩
 have HT:Hid (Touch (fun _=>False) w w1):=((Touch.refl _ w).alloc _).trans t1
 have hr0:=hr.c0
 have hr1:=hr.c1
 have hm0:modv h k 0=h%255:=rfl
 have hm1:modv h k 1=k%255:=rfl
 clear hv hby t1 hr
 by_cases e0:h%255=0
 ·by_cases e1:k%255=0
  ·have HBt:Hid (B=true):=by show _=_;rw [←HB.out,Qcj];exact⟨by omega,by omega⟩
   clear hr0 hr1
   go_wp2_with fail
   refine (Qhh h k 0 _ (Or.inl rfl) h0 h1 k0 k1).mono ?_
   rintro e w2 ⟨rfl,rfl⟩
   go_wp2_with fail
   refine (Qhh h k 1 _ (Or.inr rfl) h0 h1 k0 k1).mono ?_
   rintro e w2 ⟨rfl,rfl⟩
   go_wp2
   go_ret
   rw [HBt.out]
   exact⟨rfl,(HT.out.alloc _).alloc _⟩
  ·have e1':(k%255==0)=false:=by simpa using e1
   have HBt:Hid (B=false):=by show _=_;rw [←HB.out,←Bool.not_eq_true,Qcj];rintro ⟨_,q⟩;omega
   clear hr0 hr1
   go_wp2_with fail
   refine (Qhh h k 0 _ (Or.inl rfl) h0 h1 k0 k1).mono ?_
   rintro e w2 ⟨rfl,rfl⟩
   go_wp2_with fail
   refine (Qhh h k 1 _ (Or.inr rfl) h0 h1 k0 k1).mono ?_
   rintro e w2 ⟨rfl,rfl⟩
   go_wp2
   go_ret
   rw [HBt.out]
   exact⟨rfl,(HT.out.alloc _).alloc _⟩
 ·have e0':(h%255==0)=false:=by simpa using e0
  have HBt:Hid (B=false):=by show _=_;rw [←HB.out,←Bool.not_eq_true,Qcj];rintro ⟨q,_⟩;omega
  clear hr0 hr1
  go_wp2_with fail
  refine (Qhh h k 0 _ (Or.inl rfl) h0 h1 k0 k1).mono ?_
  rintro e w2 ⟨rfl,rfl⟩
  go_wp2
  go_ret
  rw [HBt.out]
  exact⟨rfl,HT.out.alloc _⟩
end Go.Proofs.YtldmkoogghemhaaGreat
