import Derived.Test.YtfagbapgnocjiaaGreatDoorZBH
set_option maxRecDepth 100000
set_option maxHeartbeats 8000000
namespace Go.Proofs.YtfagbapgnocjiaaGreatDoor
open Go.RowKit
theorem zqr{fs:List (Nat×Int)}{g:Nat}:∀ {z:Int},(∀ f∈fs,¬ f.1=g)->znh fs g z=z:=by
 induction fs with
 | nil=>intro z _;rfl
 | cons f fs ih =>
  intro z h
  show znh fs g (if f.1=g then f.2 else z)=z
  rw[if_neg (h f (List.mem_cons_self ..))];exact ih (fun q hq=>h q (List.mem_cons_of_mem _ hq))
theorem yanj{fs:List (Nat×Int)}{g:Nat}(h0:∀ f∈fs,f.2=0):∀ {z:Int},(z=0\/∃ f∈fs,f.1=g)->znh fs g z=0:=by
 induction fs with
 | nil=>intro z h;rcases h with h | ⟨_,h,_⟩;exact h;cases h
 | cons f fs ih =>
  intro z h
  show znh fs g (if f.1=g then f.2 else z)=0
  refine ih (fun q hq=>h0 q (List.mem_cons_of_mem _ hq)) ?_
  by_cases e:f.1=g
  ·rw[if_pos e];exact .inl (h0 f (List.mem_cons_self ..))
  ·rw[if_neg e]
   rcases h with h | ⟨q,hq,hg⟩
   ·exact .inl h
   ·rcases List.mem_cons.1 hq with rfl | hq
    ·exact absurd hg e
    ·exact .inr ⟨q,hq,hg⟩
def cuFs(zs:List Int)(n:Nat):List (Nat×Int):=((List.range 8).filter fun j=>decide (n<=j)&&!(zs.getD j 0 == 0)).map fun(j:Nat)=>(3+j,0)
theorem yaak(zs:List Int)(i n:Nat):znm i ((1,(n:Int))::cuFs zs n)=cuU zs (i:Int) n 8:=by
 unfold znm cuU cuT cuFs;rw[List.map_cons,List.map_map];rfl
theorem ziu{zs:List Int}{n:Nat}{f:Nat×Int}(h:f∈cuFs zs n):∃ j,j<8/\n<=j/\f=(3+j,0):=by
 unfold cuFs at h;obtain⟨j,hm,rfl⟩:=List.mem_map.1 h;obtain⟨a,b⟩:=List.mem_filter.1 hm;rw[Bool.and_eq_true,decide_eq_true_eq]at b;exact⟨j,List.mem_range.1 a,b.1,rfl⟩
theorem yagt{zs:List Int}{n j:Nat}(hj:j<8):znh ((1,(n:Int))::cuFs zs n) (3+j) (zs.getD j 0)=(cutM zs n).getD j 0:=by
 show znh (cuFs zs n) (3+j) (if 1=3+j then(n:Int)else zs.getD j 0)=_
 rw[if_neg (by omega),yahz _ _ _ hj]
 by_cases c:j<n
 ·rw[if_pos c];exact zqr (fun f hf=>by obtain⟨q,_,hq,rfl⟩:=ziu hf;show ¬ 3+q=3+j;omega)
 ·rw[if_neg c];refine yanj (fun f hf=>by obtain⟨q,_,_,rfl⟩:=ziu hf;rfl) ?_
  by_cases e:zs.getD j 0=0
  ·exact .inl e
  ·refine .inr ⟨(3+j,0),?_,rfl⟩;unfold cuFs;exact List.mem_map.2 ⟨j,List.mem_filter.2 ⟨List.mem_range.2 hj,by rw[decide_eq_true (by omega:n<=j)];simpa using e⟩,rfl⟩
theorem yaah(x:Ino)(n:Nat):ztf x ((1,(n:Int))::cuFs x.map n)=inoM x.kind (n:Int) x.links (cutM x.map n):=by
 have N:∀ g,g<3->¬ g=1->∀ z,znh ((1,(n:Int))::cuFs x.map n) g z=z:=fun g hg h1 z=>zqr (fun f hf=>by
  rcases List.mem_cons.1 hf with rfl | hf
  ·show ¬ 1=g;omega
  ·obtain⟨q,_,_,rfl⟩:=ziu hf;show ¬ 3+q=g;omega)
 have P:=fun j hj=>yagt (zs:=x.map) (n:=n) (j:=j) hj
 unfold ztf inoM
 congr 1
 ·exact N 0 (by omega) (by omega) _
 ·show znh (cuFs x.map n) 1 (n:Int)=(n:Int)
  exact zqr (fun f hf=>by obtain⟨q,_,_,rfl⟩:=ziu hf;show ¬ 3+q=1;omega)
 ·exact N 2 (by omega) (by omega) _
 ·exact P 0 (by omega)
 ·exact P 1 (by omega)
 ·exact P 2 (by omega)
 ·exact P 3 (by omega)
 ·exact P 4 (by omega)
 ·exact P 5 (by omega)
 ·exact P 6 (by omega)
 ·exact P 7 (by omega)
theorem yatb{ls:List Int}{ns:List Ino}{ds:List Den}(h:Wi ls ns ds){s:ByteArray}{size:Int}{us:List Se}(e:cuI ns ds s size=(us,0)) :
  UpIn us/\us.length<=9/\∃ i n:Nat,i<16/\n<=8/\(flI ns ds s).1=(i:Int)/\size=(n:Int)/\Wi (zco ls us) (ns.set i (inoM (zal ns i).kind (n:Int) (zal ns i).links (cutM (zal ns i).map n))) ds:=by
 unfold cuI at e
 by_cases c:(flI ns ds s).2=0
 ·rw[if_pos c]at e;obtain⟨i,hi,ei,k⟩:=zgp h.img c;rw[ei]at e;unfold cuF at e
  by_cases d:0<=size/\size<=8
  ·rw[if_pos d]at e
   obtain⟨n,rfl⟩:∃ n:Nat,size=(n:Int):=⟨size.toNat,by omega⟩
   rw[Int.toNat_natCast,Int.toNat_natCast]at e;obtain⟨rfl,-⟩:=Prod.mk.inj e;rw[<- yaak]
   have hf:∀ f∈(1,(n:Int))::cuFs (zal ns i).map n,f.1<11:=fun f hf=>by
    rcases List.mem_cons.1 hf with rfl | hf
    ·show 1<11;omega
    ·obtain⟨q,hq,_,rfl⟩:=ziu hf;show 3+q<11;omega
   refine⟨zsp hi hf,?_,i,n,hi,by omega,ei,rfl,?_⟩
   ·rw[yaak];have:=zyh (zal ns i).map (i:Int) n 8
    show(cuT (zal ns i).map (i:Int) n 8).length+1<=9
    omega
   ·rw[<- yaah];exact yanm h hi hf (by rw[yaah];exact yaqo h.img hi k (by omega))
  ·rw[if_neg d]at e;simp at e
 ·rw[if_neg c]at e;exact absurd (Prod.mk.inj e).2 c
def wrFs(p:Nat)(e size:Int):List (Nat×Int):=(3+p,e)::(if size<=(p:Int) then[(1,(p:Int)+1)] else[])
theorem yaln(i p:Nat)(e size:Int):znm i (wrFs p e size)=wrU (i:Int) (p:Int) size e:=by
 unfold znm wrU wrFs;rw[List.map_cons]
 by_cases c:size<=(p:Int)
 ·rw[if_pos c,if_pos c]
  show[(⟨48+12*(i:Int)+((3+p:Nat):Int),e⟩:Se),⟨48+12*(i:Int)+1,(p:Int)+1⟩]=_
  rw[show 48+12*(i:Int)+((3+p:Nat):Int)=48+12*(i:Int)+(3+(p:Int)) by omega]
 ·rw[if_neg c,if_neg c]
  show[(⟨48+12*(i:Int)+((3+p:Nat):Int),e⟩:Se)]=_
  rw[show 48+12*(i:Int)+((3+p:Nat):Int)=48+12*(i:Int)+(3+(p:Int)) by omega]
theorem yaet{p:Nat}{e size:Int}(hp:p<8):∀ f∈wrFs p e size,f.1<11:=fun f hf=>by
 unfold wrFs at hf
 rcases List.mem_cons.1 hf with rfl | hf
 ·show 3+p<11;omega
 ·by_cases c:size<=(p:Int)
  ·rw[if_pos c,List.mem_singleton]at hf;rw[hf];show 1<11;omega
  ·rw[if_neg c]at hf;cases hf
theorem zzz(x:Ino){p:Nat}(hp:p<8)(e:Int):ztf x (wrFs p e x.size)=inoM x.kind (if (p:Int)<x.size then x.size else(p:Int)+1) x.links (x.map.set p e):=by
 have G:∀ g z,znh (wrFs p e x.size) g z=if g=1/\x.size<=(p:Int) then(p:Int)+1 else if g=3+p then e else z:=by
  intro g z;unfold wrFs
  by_cases c:x.size<=(p:Int)
  ·rw[if_pos c]
   show(if 1=g then(p:Int)+1 else(if 3+p=g then e else z))=_
   repeat' split
   all_goals omega
  ·rw[if_neg c]
   show(if 3+p=g then e else z)=_
   repeat' split
   all_goals omega
 have M:∀ j,j<8->znh (wrFs p e x.size) (3+j) (x.map.getD j 0)=(x.map.set p e).getD j 0:=by
  intro j hj;rw[G,if_neg (fun q=>by omega),List.getD_eq_getElem?_getD,List.getD_eq_getElem?_getD,List.getElem?_set]
  by_cases b:j=p
  ·subst b;rw[if_pos rfl,if_pos rfl,if_pos (by show j<8;exact hj)];rfl
  ·rw[if_neg (by omega),if_neg (fun q=>b q.symm)]
 unfold ztf inoM
 congr 1
 ·rw[G,if_neg (fun q=>by omega),if_neg (by omega)]
 ·rw[G]
  by_cases c:(p:Int)<x.size
  ·rw[if_neg (fun q=>by omega),if_neg (by omega),if_pos c]
  ·rw[if_pos ⟨rfl,by omega⟩,if_neg c]
 ·rw[G,if_neg (fun q=>by omega),if_neg (by omega)]
 ·exact M 0 (by omega)
 ·exact M 1 (by omega)
 ·exact M 2 (by omega)
 ·exact M 3 (by omega)
 ·exact M 4 (by omega)
 ·exact M 5 (by omega)
 ·exact M 6 (by omega)
 ·exact M 7 (by omega)
theorem zrd{ls:List Int}{ns:List Ino}{ds:List Den}(h:Wi ls ns ds){i p:Nat}{e:Int}(hi:i<16)(k:(zal ns i).kind=1)(hp:p<8)(te:zel e=true)(he:¬ e=0)(new:¬ e∈zaq ns) :
  UpIn (wrU (i:Int) (p:Int) (zal ns i).size e)/\Wi (zco ls (wrU (i:Int) (p:Int) (zal ns i).size e)) (ns.set i (inoM (zal ns i).kind (if (p:Int)<(zal ns i).size then(zal ns i).size else(p:Int)+1) (zal ns i).links ((zal ns i).map.set p e))) ds:=by
 rw[<- yaln,<- zzz _ hp];exact⟨zsp hi (yaet hp),yanm h hi (yaet hp) (by rw[zzz _ hp];exact yaew h.img hi k hp te he new rfl)⟩
theorem yaqi{ls:List Int}{ns:List Ino}{ds:List Den}(h:Wi ls ns ds){i p:Nat}{e:Int}(hi:i<16)(hp:p<8)(was:¬ (zal ns i).map.getD p 0=0)(te:zel e=true)(he:¬ e=0)(new:¬ e∈zaq ns) :
  Wi (zco ls [⟨48+12*(i:Int)+(3+(p:Int)),e⟩]) (ns.set i (inoM (zal ns i).kind (zal ns i).size (zal ns i).links ((zal ns i).map.set p e))) ds:=by
 obtain⟨sz,k⟩:=yadp (h.img.ok i hi) hp was;have q:=(zrd h hi k hp te he new).2;unfold wrU at q;rw[if_neg (by omega),if_pos sz]at q;exact q
theorem zcw{p:Nat->Bool}{n:Nat}(h:0<=zbu p n):∃ k:Nat,k<n/\zbu p n=(k:Int)/\p k=true:=by
 unfold zbu at h ⊢
 cases e:(List.range n).find? p with
 | none=>rw[e]at h;exact absurd h (by show ¬ (0:Int)<=-1;omega)
 | some k=>exact⟨k,List.mem_range.1 (List.mem_of_find?_eq_some e),rfl,List.find?_some e⟩
theorem zzw{ns:List Ino}{t:Int}{k:Nat}(ht:0<=t/\t<4)(h:(!zgv (zbm (zaq ns) t) (k:Int))=true):¬ 4*(k:Int)+t∈zaq ns:=by
 intro m;unfold zgv zbm at h;rw[Bool.not_eq_true',<- Bool.not_eq_true]at h;refine h (List.contains_iff_mem.2 (List.mem_map.2 ⟨4*(k:Int)+t,List.mem_filter.2 ⟨m,?_⟩,by omega⟩));rw[beq_iff_eq];omega
theorem yagp{ns:List Ino}(h:¬ (fpI ns<0/\fsI ns<0)):zel (wrE ns)=true/\¬ wrE ns=0/\¬ wrE ns∈zaq ns:=by
 unfold wrE
 by_cases c:0<=fpI ns
 ·rw[if_pos c];obtain⟨k,hk,e,q⟩:=zcw c;have e':fpI ns=(k:Int):=e;rw[e'];refine⟨?_,by omega,zzw (by omega) q⟩;unfold zel zgt;simp;omega
 ·rw[if_neg c];obtain⟨k,hk,e,q⟩:=zcw (p:=fun i=>!zgv (zbm (zaq ns) 2) (i:Int)) (n:=32) (by have:¬ fsI ns<0:=fun z=>h ⟨by omega,z⟩;unfold fsI at this;omega);have e':fsI ns=(k:Int):=e;rw[e'];refine⟨?_,by omega,zzw (by omega) q⟩;unfold zel zgt;simp;omega
def yase(d:Int)(nm:ByteArray)(x:Den):Bool:=x.dir == d&&x.name.toList == nm.toList
theorem yaqq{ws:List Ino}{ps:List Den}(h:zbo ws ps=true){nm:ByteArray}(hn:1<=nm.size)(d:Int)(k:Nat)(hk:k<ps.length):zbf d nm ps[k]=yase d nm ps[k]:=by
 unfold zbf yase
 rcases zdg h k hk with ⟨h1,h2⟩ | ⟨h1,_⟩
 ·have:(ps[k].name.toList == nm.toList)=false:=by
   rw[beq_eq_false_iff_ne];intro e;have:=congrArg List.length e;rw[Lib.toList_data,Lib.toList_data,<- Lib.size_eq,<- Lib.size_eq]at this;omega
  rw[this];simp
 ·rw[decide_eq_true (show 0<=ps[k].child by omega),Bool.true_and]
theorem zpm(v vL:Value)(ws:List Ino)(ps:List Den)(ns:List ByteArray)(w:World)(h:RdIm w v ws ps)(hL:RdT w vL ns)(hi:zbo ws ps=true)(hn:ns.length<=1048576)(hs:∀ k (h:k<ns.length),1<=ns[k].size) :
  zC 25 #[v,vL] w fun e w'=>e=.returned (.tuple #[.I (wk ws ps 0 ns).1,.I (wk ws ps 0 ns).2])/\zB w w':=by
 have HR:=zaa h;have LD:=zaa (fun(i:Nat) (hi16:i<16) w1 h=>zob v ws ps (i:Int) w1 h (zao hi).1 (by omega));obtain⟨vW,vP,rfl,h1,h2⟩:=h;obtain⟨aW,cW,rfl,_,_⟩:=h1.shape;obtain⟨aP,cP,rfl,_,hcP⟩:=h2.shape;obtain⟨aL,cL,rfl,_,hcL⟩:=hL.shape;have L24:=zaa (zao hi).2.1;obtain⟨bP,oP,rfl,hblP,hcellP⟩:=hcP (by have:=L24.o;omega)
 have pl:ps.length<=4096:=by have:=L24.o;omega
 have HP:=zaa hcellP;have HN:=zaa hcL;have HS:=zaa hs;have PH:=zaa (fun(nm:ByteArray) (hn:1<=nm.size) d k hk=>yaqq hi hn d k hk);have CR:=zaa (fun(d:Int) (nm:ByteArray) (k:Nat) (e:zbj ps d nm=some k)=>zez hi e);generalize hres:wk ws ps 0 ns=res;have HRES:=zaa hres;clear hres h1 h2 hcP hcellP hcL hL hi hs
 obtain⟨W,hW⟩:=zE (w.alloc (.cells #[.slice aW ws.length cW,.slice (some ⟨bP,oP,none⟩) ps.length cP] 26))
 have CA:Hid (∀ w',zB W w'->w'.cell? ⟨w.heap.size,0,none⟩=some (.slice aW ws.length cW)/\w'.cell? ⟨w.heap.size,1,none⟩=some (.slice (some ⟨bP,oP,none⟩) ps.length cP)):=fun w' hb=>by
  have:w'.heap[w.heap.size]?=some (.cells #[.slice aW ws.length cW,.slice (some ⟨bP,oP,none⟩) ps.length cP] 26 (0,0)):=(hb.block _ (by rw[hW];simp)).trans (by rw[hW];exact zai rfl);exact⟨(zad this).1,(zad this).2.1⟩
 have BW:Hid (zB w W):=by rw[hW];exact zR.alloc zL _
 have hzW:w.heap.size<=W.heap.size:=BW.o.size;go_enter Tryz.func25,Tryz.ntmps25;go_wp2_with fail;go_step3;go_wp2_with fail;go_step3;go_wp2_with fail;rw[<- hW];clear hW
 go_loopg [6,13] ns.length (fun g a i wr=>∃ (k:Nat) (z:Nat),k+g=ns.length/\z<16/\a=.I z/\i=.I k/\Hid (zB W wr/\res=wk ws ps z (ns.drop k)))
 case atStart=>exact⟨0,0,by omega,by omega,rfl,rfl,zR,HRES.o.symm⟩
 case round =>
  obtain⟨k,z,hk,hz16,rfl,rfl,J⟩:=hrel;obtain⟨x0,x1⟩:=CA.o wr J.o.1;have B:=zaa (zab BW.o J.o.1 hzW);have J1:=zaa J.o.1
  have k0:(0:Int)<=(k:Int):=by omega
  by_cases hlt:k<ns.length
  ·have k1:(k:Int)<(ns.length:Int):=by omega
   have JD:Hid (res=wk ws ps z (ns[k]::ns.drop (k+1))):=by unfold Hid;rw[J.o.2,List.drop_eq_getElem_cons hlt]
   obtain⟨bL,oL,rfl,hblL,hcell⟩:=HN.o (by omega);have n0:=(B.o.cell (p:=⟨bL,oL+k,none⟩) hblL).trans (hcell k hlt);have WN:=zaa (fun(h:¬ zag ws z=2)=>zhk (ps:=ps) (n:=ns[k]) (ns:=ns.drop (k+1)) h);have WO:=zaa (fun(h:zag ws z=2) (e:zbj ps z ns[k]=none)=>zjz (ns:=ns.drop (k+1)) h e);have WS:=zaa (fun(h:zag ws z=2) (j:Nat) (e:zbj ps z ns[k]=some j)=>zgc (ns:=ns.drop (k+1)) h e);have PK:=zaa (fun j hj=>PH.o ns[k] (HS.o k hlt) (z:Int) j hj);have CR2:=zaa (fun(j:Nat) (e:zbj ps z ns[k]=some j)=>CR.o _ _ _ e);have LD2:=zaa (fun w1 h=>LD.o z hz16 w1 h);clear J hcell HRES;generalize zag ws (z:Int)=kk at *;generalize ns[k]=nm at *
   by_cases q:kk=2
   case neg =>
    have q1:(kk == 2)=false:=by rw[beq_eq_false_iff_ne];exact q
    rw[q1]at LD2;obtain rfl:=JD.o.trans (WN.o q);clear q q1 WN WO WS CR2 PK;go_wp2_with fail;refine(LD2.o _ (HR.o.below B.o)).mono ?_;rintro e w1 ⟨rfl,hb1⟩;have B1:=zaa (zab B.o hb1 B.o.size);clear hb1 x0 x1 n0;go_wp2
    try rw[Exit.noGoto_ret]
    go_ret2;exact⟨rfl,B1.o⟩
   have q1:(kk == 2)=true:=by rw[q];rfl
   rw[q1]at LD2;clear q1;have Q:=zaa q;clear q;go_wp2_with fail;refine(LD2.o _ (HR.o.below B.o)).mono ?_;rintro e w1 ⟨rfl,hb1⟩;have B1:=zaa (zab B.o hb1 B.o.size);have J2:=zaa (zab J1.o hb1 J1.o.size);clear hb1 x0 x1 n0 LD2;obtain⟨x0,x1⟩:=CA.o w1 J2.o;generalize gk=G0 at *;have hz1:w.heap.size<=w1.heap.size:=B1.o.size;clear B J1;go_wp2_with fail
   go_loopg [6,24] ps.length (fun g2 a i wq=>∃ j:Nat,j+g2=ps.length/\a=.I z/\i=.I j/\Hid (zB w1 wq/\∀ m (h:m<ps.length),m<j->zbf (z:Int) nm ps[m]=false))
   case atStart=>exact⟨0,by omega,rfl,rfl,zR,fun m h a=>absurd a (by omega)⟩
   case round =>
    obtain⟨j,hj,rfl,rfl,K⟩:=hrel;have KW:=zaa (zab B1.o K.o.1 hz1);have K2:=zaa (zab J2.o K.o.1 J2.o.size)
    have j0:(0:Int)<=(j:Int):=by omega
    by_cases hlj:j<ps.length
    ·obtain⟨a0,a1,a2⟩:=HP.o j hlj;have d0:=(KW.o.cell (p:=⟨bP,oP+j*3,none⟩) hblP).trans a0;have d1:=(KW.o.cell (p:=⟨bP,oP+j*3+1,none⟩) hblP).trans a1;have d2:=(KW.o.cell (p:=⟨bP,oP+j*3+2,none⟩) hblP).trans a2
     have j1:(j:Int)<(ps.length:Int):=by omega
     have EH:Hid (zbf (z:Int) nm ps[j]=(ps[j].dir == (z:Int)&&ps[j].name.toList == nm.toList)):=PK.o j hlj;have HY:=zaa (fun e:zbf (z:Int) nm ps[j]=true=>zsn hlj K.o.2 e)
     have HX:=zaa (fun(e:zbf (z:Int) nm ps[j]=false) m (h:m<ps.length) (a:m<j+1)=>show zbf (z:Int) nm ps[m]=false by
      by_cases q:m=j
      ·subst q;exact e
      ·exact K.o.2 m h (by omega))
     have CJ:=zaa (zch hlj);have K1:=zaa K.o.1;clear a0 a1 a2 K;generalize zbf (z:Int) nm ps[j]=hit at *;generalize ps[j].child=y at *;generalize ps[j].dir=yd at *;generalize ps[j].name=yn at *;have BX:=zaa ((Below.refl wr.heap.size wr).alloc zL (.cells #[.I yd,.string yn,.I y] 52));have B5:=zaa (zab K1.o BX.o K1.o.size);have B6:=zaa (zab K2.o BX.o K2.o.size)
     by_cases r:yd=(z:Int)
     case neg =>
      have r1:(yd == (z:Int))=false:=beq_eq_false_iff_ne.2 r;have E:=zaa (HX.o (by rw[EH.o,r1];rfl));clear r HX HY EH;go_wp2
      go_roundg (ps.length-(j+1))
      case measure=>omega
      case rel=>exact⟨j+1,by omega,rfl,by go_num,B5.o,E.o⟩
     have r1:(yd == (z:Int))=true:=beq_iff_eq.2 r
     cases t:(yn.toList == nm.toList) with
     | false =>
      have E:=zaa (HX.o (by rw[EH.o,t];simp));clear r HX HY EH;go_wp2
      go_roundg (ps.length-(j+1))
      case measure=>omega
      case rel=>exact⟨j+1,by omega,rfl,by go_num,B5.o,E.o⟩
     | true =>
      have E1:=HY.o (by rw[EH.o,t,r1];rfl);obtain⟨_,c1,c2⟩:=CR2.o j E1;have W2:=zaa (JD.o.trans (WS.o Q.o j E1));rw[CJ.o]at c1 c2 W2
      obtain⟨yn2,hy⟩:∃ n:Nat,y=(n:Int):=⟨y.toNat,by omega⟩
      subst hy
      have y16:yn2<16:=by omega
      clear r HX HY EH E1 CJ;go_wp2
      go_roundg (ns.length-(k+1))
      case measure=>omega
      case rel=>exact⟨k+1,yn2,by omega,y16,rfl,by go_num,B6.o,W2.o⟩
    ·obtain rfl:j=ps.length:=by omega
     have E:=zaa (JD.o.trans (WO.o Q.o (yanl (fun m h=>K.o.2 m h h))));obtain rfl:=E.o;clear K E;go_wp2
     try rw[Exit.noGoto_ret]
     go_ret2;exact⟨rfl,KW.o⟩
  ·obtain rfl:k=ns.length:=by omega
   have E:Hid (res=((z:Int),0)):=by unfold Hid;rw[J.o.2,List.drop_length];rfl
   clear HRES J;obtain rfl:=E.o;go_wp2
   try rw[Exit.noGoto_ret]
   go_ret2;exact⟨rfl,B.o⟩
end Go.Proofs.YtfagbapgnocjiaaGreatDoor
