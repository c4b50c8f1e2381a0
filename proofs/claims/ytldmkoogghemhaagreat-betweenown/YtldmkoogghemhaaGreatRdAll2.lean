import Derived.Test.YtldmkoogghemhaaGreatReader
import Derived.Laws.CopyOwn
namespace Go.Proofs.YtldmkoogghemhaaGreat
open Go.RowKit
set_option linter.unusedVariables false
set_option maxRecDepth 100000
theorem Qmp {w:World} {g off:Nat} {rs:List Int} (hc:∀j u,(bytesOf rs)[j]?=some u→w.cell? ⟨g,off+j,none⟩=some u) (p m:Nat) (hm:p+m≤rs.length) (hcm:rs.length≤maxLen) :
  RowAt w (.slice (some ⟨g,off+p,none⟩) m m) ((rs.drop p).take m):=by
 have hl:((rs.drop p).take m).length=m:=by simp;omega
 refine Or.inr ⟨g,off+p,m,by rw [hl],by omega,by omega,?_⟩
 intro j u hj
 have:(bytesOf rs)[p+j]?=some u:=by
  simp only [bytesOf,List.map_take,List.map_drop,List.getElem?_take,List.getElem?_drop] at hj ⊢
  split at hj
  ·exact hj
  ·simp at hj
 have:=hc _ _ this
 rwa [←Nat.add_assoc] at this
theorem Qko (w:World) (g off:Nat):RowAt w (.slice (some ⟨g,off,none⟩) 0 0) [] :=
 Or.inr ⟨g,off,0,by simp,by simp,by simp [maxLen],by intro j u hj;simp [bytesOf] at hj⟩
theorem Qoo (b p m:Nat) (rv:Value) (rs:List Int) (w:World) (h:RdS w b rv rs p 0) (hm:p+m≤rs.length) :
  Calls Tryz.prog 187 #[.pointer (some ⟨b,0,none⟩),.int .i64 m] w fun e w'=>∃sv,e=.returned sv∧RowAt w' sv ((rs.drop p).take m)∧(sv.ownBlock=none∨sv.ownBlock=rv.ownBlock) ∧
   RdS w' b rv rs (p+m) 0∧Touch (fun k=>k=b) w w'∧w'.heap.size=w.heap.size:=by
 have h0:=h.made
 have h1:=h.row
 have h2:=h.pos
 have h3:=h.err
 have hf2:=h.f2
 have hlt:=Qaa h0
 have HW:∀n,RdS (w.drewN n) b rv rs p 0:=fun n=>h.drewN n
 rcases h.rowAt with⟨rfl,rfl⟩|⟨g,off,c,rfl,hlc,hcm,hcells⟩
 ·obtain rfl:p=0:=by simpa using h.ple
  obtain rfl:m=0:=by simpa using hm
  go_enter Tryz.func187,Tryz.ntmps187
  go_wp2_with (first|(go_at_call 143;refine (Qdg _ 0 _ [] _ h).mono ?_;rintro e w' ⟨rfl,nl,rfl⟩)|(go_at_call 167;refine (Qaw _ 0 _ (HW _).made (HW _).err).mono ?_;rintro e w' ⟨rfl,rfl⟩))
  go_quiet (fail)
  have HB:Hid (RdS ((w.drewN nl).setCell ⟨b,2,none⟩ (.int .i64 ((0:Nat):Int))) b (.slice none 0 0) [] 0 0):=(h.drewN nl).setPos 0 (by simp)
  have HT:Hid (Touch (fun k=>k=b) w ((w.drewN nl).setCell ⟨b,2,none⟩ (.int .i64 ((0:Nat):Int)))):=Touch.setCell (F:=fun k=>k=b) (p:=⟨b,2,none⟩) ((Touch.refl _ w).drewN nl) (Or.inl rfl) _
  clear h0 h1 h2 h3 hf2 HW h
  go_wp2
  go_ret
  exact⟨_,rfl,Or.inl ⟨rfl,rfl⟩,Or.inl rfl,HB.out.drewN _,HT.out.drewN _,by simp [World.setCell,World.drewN]⟩
 ·unfold maxLen at hcm
  by_cases hm0:m=0
  ·subst hm0
   go_enter Tryz.func187,Tryz.ntmps187
   go_wp2_with (first|(go_at_call 143;refine (Qdg _ p _ rs _ h).mono ?_;rintro e w' ⟨rfl,nl,rfl⟩)|(go_at_call 167;refine (Qaw _ 0 _ (HW _).made (HW _).err).mono ?_;rintro e w' ⟨rfl,rfl⟩))
   go_quiet (fail)
   have HB:Hid (RdS ((w.drewN nl).setCell ⟨b,2,none⟩ (.int .i64 ((p:Nat):Int))) b (.slice (some ⟨g,off,none⟩) rs.length c) rs p 0):=(h.drewN nl).setPos p hm
   have HT:Hid (Touch (fun k=>k=b) w ((w.drewN nl).setCell ⟨b,2,none⟩ (.int .i64 ((p:Nat):Int)))):=Touch.setCell (F:=fun k=>k=b) (p:=⟨b,2,none⟩) ((Touch.refl _ w).drewN nl) (Or.inl rfl) _
   clear h0 h1 h2 h3 hf2 HW h
   go_wp2
   go_ret
   exact⟨.slice (some ⟨g,off,none⟩) 0 0,rfl,Qko _ _ _,Or.inr rfl,HB.out.drewN _,HT.out.drewN _,by simp [World.setCell,World.drewN]⟩
  ·have hpm:¬p+m=p:=by omega
   have hpp:p+m-p=m:=by omega
   go_enter Tryz.func187,Tryz.ntmps187
   go_wp2_with (first|(go_at_call 143;refine (Qdg _ p _ rs _ h).mono ?_;rintro e w' ⟨rfl,nl,rfl⟩)|(go_at_call 167;refine (Qaw _ 0 _ (HW _).made (HW _).err).mono ?_;rintro e w' ⟨rfl,rfl⟩))
   go_quiet (fail)
   have HB:Hid (RdS ((w.drewN nl).setCell ⟨b,2,none⟩ (.int .i64 ((p:Int)+(m:Int)))) b (.slice (some ⟨g,off,none⟩) rs.length c) rs (p+m) 0):=(h.drewN nl).setPos (p+m) hm
   have HT:Hid (Touch (fun k=>k=b) w ((w.drewN nl).setCell ⟨b,2,none⟩ (.int .i64 ((p:Int)+(m:Int))))):=Touch.setCell (F:=fun k=>k=b) (p:=⟨b,2,none⟩) ((Touch.refl _ w).drewN nl) (Or.inl rfl) _
   clear h0 h1 h2 h3 hf2 HW h
   go_wp2
   go_ret
   refine⟨.slice (some ⟨g,off+p,none⟩) (p+m-p) (p+m-p),rfl,?_,Or.inr rfl,HB.out.drewN _,HT.out.drewN _,by simp [World.setCell,World.drewN]⟩
   rw [hpp]
   refine Qmp (fun j u hj=>?_) p m hm (by unfold maxLen;omega)
   exact ((HT.out.drewN _).cell (p:=⟨g,off+j,none⟩) (Qaa (hcells j u hj)) (by have:=HB.out.ne;simpa [Value.ownBlock] using this)).trans (hcells j u hj)
theorem Qik (b p:Nat) (m:Int) (rv:Value) (rs:List Int) (w:World) (h:RdS w b rv rs p 0) (hm:(rs.length:Int)<p+m) (hmm:m≤9223372036854775807) :
  Calls Tryz.prog 187 #[.pointer (some ⟨b,0,none⟩),.int .i64 m] w fun e w'=>e=.returned (.slice none 0 0)∧RdS w' b rv rs p 10∧Touch (fun k=>k=b) w w'∧w'.heap.size=w.heap.size:=by
 have hple:=h.ple
 have hm1:(rs.length:Int)-p<m:=by omega
 have hm2:¬m<0:=by omega
 have HW:∀n,RdS (w.drewN n) b rv rs p 0:=fun n=>h.drewN n
 have hlt:=Qaa h.made
 clear hm
 go_enter Tryz.func187,Tryz.ntmps187
 go_wp2_with (first|(go_at_call 143;refine (Qdg _ p _ rs _ h).mono ?_;rintro e w' ⟨rfl,nl,rfl⟩)|(go_at_call 186;refine (Qj1 _ 10 _ (HW _).made (HW _).err (HW _).f3).mono ?_;rintro e w' ⟨rfl,rfl⟩)|(go_at_call 167;refine (Qaw _ 10 _ ((HW _).setErr 10).made ((HW _).setErr 10).err).mono ?_;rintro e w' ⟨rfl,rfl⟩))
 go_ret
 exact⟨rfl,(HW _).setErr 10,Touch.setCell (F:=fun k=>k=b) (p:=⟨b,3,none⟩) ((Touch.refl _ w).drewN _) (Or.inl rfl) _,by simp [World.setCell,World.drewN]⟩
def numVal (l:List Int):Int:=l.foldl (fun a x=>a*256+x) 0
theorem Qfs (l:List Int) (x:Int):numVal (l++[x])=numVal l*256+x:=by simp [numVal]
theorem Qdi (l:List Int) (k:Nat) (h:k<l.length):numVal (l.take (k+1))=numVal (l.take k)*256+l.getD k 0:=by
 rw [List.take_succ_eq_append_getElem h,Qfs];simp [List.getD,h]
theorem Qka (l:List Int) (hb:∀x∈l,0≤x∧x<256) (k:Nat):0≤numVal (l.take k)∧numVal (l.take k)<256 ^ k:=by
 induction k with
 | zero=>simp [numVal]
 | succ k ih =>
  by_cases h:k<l.length
  ·rw [Qdi l k h]
   have hx:=hb (l.getD k 0) (by simp [List.getD,h])
   have e:(256:Int) ^ (k+1)=256 ^ k*256:=Int.pow_succ _ _
   omega
  ·rw [List.take_of_length_le (by omega)] at ih ⊢
   have e:(256:Int) ^ (k+1)=256 ^ k*256:=Int.pow_succ _ _
   have:(0:Int)<256 ^ k:=Int.pow_pos (by decide)
   omega
theorem Qo1 (k:Nat) (h:k≤3):(256:Int) ^ k≤16777216:=by
 rcases (by omega:k=0∨k=1∨k=2∨k=3) with rfl|rfl|rfl|rfl <;> decide
theorem Qno (x y:Int) (hx:0≤x) (hx1:x<16777216) (hy:0≤y) (hy1:y<256):bits .or .u32 (x*256) y=x*256+y:=by
 rw [u32_or _ _ (by omega) (by omega) (by omega) (by omega)]
 have e1:(x*256).toNat=x.toNat <<< 8:=by rw [Nat.shiftLeft_eq];omega
 rw [e1,←Nat.shiftLeft_add_eq_or_of_lt (by omega),Nat.shiftLeft_eq]
 omega
theorem Qjq {rs:List Int} (hb:∀x∈rs,0≤x∧x<256) (p m:Nat):∀x∈(rs.drop p).take m,0≤x∧x<256 :=
 fun x hx=>hb x (List.mem_of_mem_drop (List.mem_of_mem_take hx))
theorem Qng (b p m:Nat) (rv:Value) (rs:List Int) (w:World) (h:RdS w b rv rs p 0) (hm1:1≤m) (hm:p+m≤rs.length) :
  Calls Tryz.prog 187 #[.pointer (some ⟨b,0,none⟩),.int .i64 m] w fun e w'=>∃(g off c:Nat) (zs:List Int),e=.returned (.slice (some ⟨g,off,none⟩) m c)∧Hid (zs=(rs.drop p).take m)∧zs.length=m ∧
   (∀j,j<m→w'.cell? ⟨g,off+j,none⟩=some (.int .u8 (zs.getD j 0)))∧Hid (∀x∈zs,0≤x∧x<256)∧Hid (RdS w' b rv rs (p+m) 0∧Touch (fun k=>k=b) w w'∧w'.heap.size=w.heap.size):=by
 refine (Qoo b p m rv rs w h hm).mono ?_
 rintro e w' ⟨sv,rfl,hrow,hown,hrd,ht,hsz⟩
 have hl:((rs.drop p).take m).length=m:=by simp;omega
 rcases hrow with⟨_,e⟩|⟨g,off,c,rfl,h1,h2,h3⟩
 ·rw [e] at hl;simp at hl;omega
 ·refine⟨g,off,c,_,by rw [hl],rfl,hl,fun j hj=>h3 j _ ?_,Qjq h.byte p m,hrd,ht,hsz⟩
  simp only [bytesOf,List.getElem?_map]
  rw [List.getElem?_eq_getElem (by omega)]
  simp [List.getD,hl,hj]
theorem Qhf (b p m:Nat) (rv:Value) (rs:List Int) (w:World) (h:RdS w b rv rs p 0) (hm1:1≤m) (hm4:m≤4) (hm:p+m≤rs.length) :
  Calls Tryz.prog 175 #[.pointer (some ⟨b,0,none⟩),.int .i64 m] w fun e w'=>e=.returned (.int .u32 (numVal ((rs.drop p).take m))) ∧
   RdS w' b rv rs (p+m) 0∧Touch (fun k=>k=b) w w'∧w'.heap.size=w.heap.size:=by
 have hd1:decide ((m:Int)<1)=false:=by simp;omega
 have hd2:decide ((4:Int)<m)=false:=by simp;omega
 go_enter Tryz.func175,Tryz.ntmps175
 go_wp2_with (go_at_call 187;refine (Qng _ p m _ rs _ h hm1 hm).mono ?_;rintro e w' ⟨g,off,c,zs,rfl,hzs,hzl,hcell,hby,hrest⟩)
 go_loop [5,20] (fun v i=>∃k:Nat,k≤m∧i=.int .i64 k∧v=.int .u32 (numVal (zs.take k))) (fun _ i=>m-(intOf i).toNat)
 case atStart=>exact⟨0,Nat.zero_le _,rfl,rfl⟩
 case round =>
  obtain⟨k,hk,rfl,rfl⟩:=hrel
  by_cases hlt:k<m
  ·have hc:=hcell k hlt
   obtain⟨z,hz⟩:∃z,z=zs.getD k 0:=⟨_,rfl⟩
   rw [←hz] at hc
   have hx:=hby.out z (by rw [hz];simp [List.getD,show k<zs.length by omega])
   obtain⟨hx0,hx1⟩:=hx
   obtain⟨V,hV⟩:∃V,V=numVal (zs.take k):=⟨_,rfl⟩
   have hb:=Qka zs hby.out k
   have hb3:=Qo1 k (by omega)
   have HS:Hid (numVal (zs.take (k+1))=V*256+z):=by show _=_;rw [Qdi zs k (by omega),hV,hz]
   rw [←hV] at hb ⊢
   have hV1:V<16777216:=by omega
   have hV0:0≤V:=hb.1
   have hor:=Qno V z hV0 hV1 hx0 hx1
   clear hb hb3 hV hz hcell
   go_wp2
   go_round
   case rel=>exact⟨k+1,by omega,by go_num,by rw [HS.out]⟩
   case measure=>simp [intOf];omega
  ·go_wp2
   go_ret
   obtain rfl:k=m:=by omega
   obtain⟨a,b',c'⟩:=hrest.out
   exact⟨Qas (by rw [←hzs.out,List.take_of_length_le (by omega)]),a,b',c'⟩
theorem Tryz.info5:(Tryz.prog.info? 5).map (fun i=>(i.zero,i.size,i.bytes))=some (some (.int .u8 0),1,1):=by kernel_rfl
theorem Qjn (b:Nat) (err:Int) (w:World) (h0:w.cell? ⟨b,0,none⟩=some (.bool true)) (h3:w.cell? ⟨b,3,none⟩=some (.int .i64 err)) :
  Calls Tryz.prog 153 #[.pointer (some ⟨b,0,none⟩)] w fun e w'=>e=.returned (.int .i64 err)∧w=w':=by
 go_enter Tryz.func153,Tryz.ntmps153
 go_wp2
 go_ret
 exact⟨rfl,rfl⟩
theorem Qaz (b:Nat) (err:Int) (w:World) (h0:w.cell? ⟨b,0,none⟩=some (.bool true)) (h3:w.cell? ⟨b,3,none⟩=some (.int .i64 err)) :
  Calls Tryz.prog 151 #[.pointer (some ⟨b,0,none⟩)] w fun e w'=>e=.returned (.bool (err==0))∧w=w':=by
 go_enter Tryz.func151,Tryz.ntmps151
 go_wp2_with (go_at_call 153;refine (Qjn _ err _ (by assumption) (by assumption)).mono ?_;rintro e w' ⟨rfl,rfl⟩)
 go_ret
 exact⟨rfl,rfl⟩
theorem Qox (b:Nat) (v:Value) (bs:List Int) (most:Int) (ad:Addr) (c:Nat) (ns:List Int) (w:World) (h:WrS w b v bs most 0)
  (hs:∀j u,(bytesOf ns)[j]?=some u→w.cell? (ad.add j)=some u) (hfit:(bs.length+ns.length:Int)≤most) (hcap:bs.length+ns.length≤1099511627776) :
  Calls Tryz.prog 138 #[.pointer (some ⟨b,0,none⟩),.slice (some ad) ns.length c] w fun e w'=>e=.returned (.pointer (some ⟨b,0,none⟩)) ∧
   ∃v',WrS w' b v' (bs++ns) most 0∧Touch (wrF b v) w w'∧(v'.ownBlock=v.ownBlock∨∃g,v'.ownBlock=some g∧w.heap.size≤g):=by
 obtain⟨i0,hi,hz0,hz1,hz2⟩:=info_parts Tryz.info5
 obtain⟨h0,h1,h2,h3,hf1,hf3,hown⟩:=h
 have hlt:=Qaa h0
 obtain⟨va,vl,vc,hv,hvl⟩:∃va vl vc,v=.slice va vl vc∧vl=bs.length:=by
  rcases hown.2 with⟨rfl,e⟩|⟨g,cap,cur,rfl,_⟩
  ·exact⟨_,_,_,rfl,e.symm⟩
  ·exact⟨_,_,_,rfl,rfl⟩
 subst hv
 subst hvl
 go_enter Tryz.func138,Tryz.ntmps138
 go_wp2_with (go_at_call 151;refine (Qaz _ 0 _ (by assumption) (by assumption)).mono ?_;rintro e w' ⟨rfl,rfl⟩)
 go_quiet (fail)
 go_wp2_with (at_builtin;(refine wpList_append_own_at _ rfl (.tmp 28) (.tmp 29) 57 rfl (b+1) 5 i0 (.int .u8 0) 1 1 Tryz.underlying57 hi hz0 hz1 hz2 rfl (by decide) (.slice va bs.length vc) bs.length (bytesOf bs) rfl ?c0 ad ns.length c (bytesOf ns) rfl ?c6 ?c1 ?c2 ?c3 ?c4 ?c5 ?_))
 case c0=>exact (WrS.drewN ⟨h0,h1,h2,h3,hf1,hf3,hown⟩ nq).own
 case c6=>simp [Qba]
 case c1=>exact hs
 case c2=>exact Qa5 ns
 case c3=>unfold maxLen;omega
 case c4=>omega
 case c5=>show b+1≤w.heap.size;omega
 intro v' w1 hown' hgrow _ hat
 have R:=Qc8 (bs':=bs++ns) (WrS.drewN ⟨h0,h1,h2,h3,hf1,hf3,hown⟩ nq) hgrow (by rw [Qca,List.length_append];exact hown')
 have hne:¬(Value.slice va bs.length vc).ownBlock=some b:=Qmd hown (Nat.lt_succ_self b)
 have hc1:w1.cell? ⟨b,1,none⟩=some (.slice va bs.length vc):=(World.cell?_of_block (w:=w) (hgrow.block b hlt (fun e=>hne e.symm))).trans h1
 have hf1':w1.frozen? ⟨b,1,none⟩=false:=(World.frozen?_of_block (w:=w) (hgrow.block b hlt (fun e=>hne e.symm))).trans hf1
 obtain⟨va',vl',vc',hv'⟩:∃va' vl' vc',v'=.slice va' vl' vc':=by
  rcases hown'.2 with⟨rfl,e⟩|⟨g,cap,cur,rfl,_⟩
  ·exact⟨_,_,_,rfl⟩
  ·exact⟨_,_,_,rfl⟩
 subst hv'
 have HR:Hid (WrS (w1.setCell ⟨b,1,none⟩ (.slice va' vl' vc')) b (.slice va' vl' vc') (bs++ns) most 0∧Touch (wrF b (.slice va bs.length vc)) (w.drewN nq) (w1.setCell ⟨b,1,none⟩ (.slice va' vl' vc'))):=R
 have HA:Hid ((Value.slice va' vl' vc').ownBlock=(Value.slice va bs.length vc).ownBlock∨(Value.slice va' vl' vc').ownBlock=some w.heap.size):=hat
 clear R hown' hgrow hat hown hne hs h0 h1 h2 h3 hf1 hf3
 go_wp2
 go_ret
 refine⟨rfl,_,HR.out.1,((Touch.refl _ _).drewN nq).trans HR.out.2,?_⟩
 rcases HA.out with h|h
 ·exact Or.inl h
 ·exact Or.inr ⟨_,h,Nat.le_refl _⟩
theorem Qeh (b p m:Nat) (rv:Value) (rs:List Int) (w:World) (h:RdS w b rv rs p 0) (hm1:1≤m) (hm4:m≤4) (hm:rs.length<p+m) :
  Calls Tryz.prog 175 #[.pointer (some ⟨b,0,none⟩),.int .i64 m] w fun e w'=>e=.returned (.int .u32 0) ∧
   RdS w' b rv rs p 10∧Touch (fun k=>k=b) w w'∧w'.heap.size=w.heap.size:=by
 have hd1:decide ((m:Int)<1)=false:=by simp;omega
 have hd2:decide ((4:Int)<m)=false:=by simp;omega
 go_enter Tryz.func175,Tryz.ntmps175
 go_wp2_with (go_at_call 187;refine (Qik _ p m _ rs _ h (by omega) (by omega)).mono ?_;rintro e w' ⟨rfl,hrest⟩)
 go_rounds 1
 go_ret
 exact⟨rfl,hrest⟩
theorem Qna (b:Nat) (v:Value) (bs:List Int) (most:Int) (w:World) (h:WrS w b v bs most 0) (hcap:bs.length≤1099511627776) :
  Calls Tryz.prog 139 #[.pointer (some ⟨b,0,none⟩)] w fun e w'=>∃v',e=.returned (.tuple #[v',.int .i64 0])∧w'.ownsRow w.heap.size 5 1 v' bs.length (bytesOf bs)∧Touch (fun _=>False) w w':=by
 have h0:=h.made
 have h1:=h.row
 have h3:=h.err
 rcases h.own.2 with⟨rfl,e⟩|⟨g,cap,cur,rfl,hbg,hg,hnc,hcm,hcs,htake⟩
 ·obtain rfl:bs=[]:=List.eq_nil_of_length_eq_zero e
  go_enter Tryz.func139,Tryz.ntmps139
  go_wp2_with (first|(go_at_call 151;refine (Qaz _ 0 _ (by assumption) (by assumption)).mono ?_;rintro e w' ⟨rfl,rfl⟩)|(go_at_call 154;refine (Qey _).mono ?_;rintro e w' ⟨rfl,rfl⟩))
  go_ret2
  exact⟨_,rfl,World.ownsRow_nil _ _ _ _,Touch.refl _ _⟩
 ·have hs:∀j u,(bytesOf bs)[j]?=some u→w.cell? ((⟨g,0,none⟩:Addr).add j)=some u:=h.own.cells (g:=g) rfl
  go_enter Tryz.func139,Tryz.ntmps139
  go_wp2_with (first|(go_at_call 151;refine (Qaz _ 0 _ (by assumption) (by assumption)).mono ?_;rintro e w' ⟨rfl,rfl⟩)|(go_at_call 154;refine (Qd0 _ _ bs _ hs hcap).mono ?_;rintro e w' ⟨v',rfl,hown,ht,hne⟩))
  go_ret2
  exact⟨_,rfl,hown,ht⟩
theorem Qkn (b p:Nat) (n err:Int) (rv:Value) (rs:List Int) (w:World) (h:RdS w b rv rs p err) (he:¬err=0) :
  Calls Tryz.prog 187 #[.pointer (some ⟨b,0,none⟩),.int .i64 n] w fun e w'=>e=.returned (.slice none 0 0)∧w=w':=by
 have h0:=h.made
 have h3:=h.err
 have he':(err==0)=false:=by simpa using he
 by_cases hn:n<0
 ·go_enter Tryz.func187,Tryz.ntmps187
  go_wp2_with (first|(go_at_call 186;refine (Qbs _ _ _ _ h0 h3 he').mono ?_;rintro e w' ⟨rfl,rfl⟩)|(go_at_call 167;refine (Qaw _ _ _ h0 h3).mono ?_;rintro e w' ⟨rfl,rfl⟩))
  go_ret
  exact⟨rfl,rfl⟩
 ·by_cases hp:0<n
  all_goals
   go_enter Tryz.func187,Tryz.ntmps187
   go_wp2_with (first|(go_at_call 143;refine (Qfe _ _ _ h0 h3 he').mono ?_;rintro e w' ⟨rfl,rfl⟩)|(go_at_call 186;refine (Qbs _ _ _ _ h0 h3 he').mono ?_;rintro e w' ⟨rfl,rfl⟩)|(go_at_call 167;refine (Qaw _ _ _ h0 h3).mono ?_;rintro e w' ⟨rfl,rfl⟩))
   go_ret
   exact⟨rfl,rfl⟩
theorem Qe4 (b p:Nat) (n err:Int) (rv:Value) (rs:List Int) (w:World) (h:RdS w b rv rs p err) (he:¬err=0) :
  Calls Tryz.prog 175 #[.pointer (some ⟨b,0,none⟩),.int .i64 n] w fun e w'=>e=.returned (.int .u32 0)∧w=w':=by
 have g0:=h.made
 have g3:=h.err
 have he':(err==0)=false:=by simpa using he
 by_cases h1:n<1
 ·go_enter Tryz.func175,Tryz.ntmps175
  go_wp2_with (go_at_call 186;refine (Qbs _ _ _ _ g0 g3 he').mono ?_;rintro e w' ⟨rfl,rfl⟩)
  go_ret
  exact⟨rfl,rfl⟩
 ·have h1':decide (n<1)=false:=by simpa using h1
  by_cases h4:4<n
  ·go_enter Tryz.func175,Tryz.ntmps175
   go_wp2_with (go_at_call 186;refine (Qbs _ _ _ _ g0 g3 he').mono ?_;rintro e w' ⟨rfl,rfl⟩)
   go_ret
   exact⟨rfl,rfl⟩
  ·have h4':decide (4<n)=false:=by simpa using h4
   go_enter Tryz.func175,Tryz.ntmps175
   go_wp2_with (go_at_call 187;refine (Qkn _ _ _ _ _ _ _ h he).mono ?_;rintro e w' ⟨rfl,rfl⟩)
   go_rounds 1
   go_ret
   exact⟨rfl,rfl⟩
end Go.Proofs.YtldmkoogghemhaaGreat
