import Derived.Test.YtdiaiejmoocpmaaGreatDoorZBG
set_option maxRecDepth 100000
set_option maxHeartbeats 16000000
namespace Go.Proofs.YtdiaiejmoocpmaaGreatDoor
theorem ybax{ns:List Ino}{i j:Nat}(hi:i<ns.length)(h:¬ (zan ns i).map.getD j 0=0):(zan ns i).map.getD j 0∈zao ns:=by
 unfold zao;refine List.mem_flatMap.2 ⟨zan ns i,by rw[zbp hi];exact List.getElem_mem hi,?_⟩;unfold zea;rw[List.mem_filter];refine⟨?_,by simpa using h⟩;rw[List.getD_eq_getElem?_getD]at h ⊢
 by_cases q:j<(zan ns i).map.length
 ·rw[List.getElem?_eq_getElem q];exact List.getElem_mem q
 ·rw[List.getElem?_eq_none (by omega)]at h;exact absurd rfl h
theorem zwz{ls es:List Int}{e:Int}(c:e%4=1)(_h0:0<=e):pgV ls [] es [] e=wdI ls (312+e/4):=by
 unfold pgV;rw[if_pos c];unfold ldW wdI;rw[List.getD_eq_getElem?_getD];rfl
theorem zvv{ls es:List Int}{e:Int}(c:e%4=2):pgV ls [] es [] e=es[(e/4).toNat]?.getD 0:=by
 unfold pgV;rw[if_neg (by omega),if_pos c];rfl
theorem zwo{ls es:List Int}{e:Int}(c:¬ e%4=1)(d:¬ e%4=2):pgV ls [] es [] e=0:=by
 unfold pgV;rw[if_neg c,if_neg d]
theorem yauu{e:Int}(t:zeo e=true)(c:e%4=1):e/4<24:=by
 unfold zeo zfb at t;rw[c]at t;simp at t;omega
theorem yafl{ls:List Int}{us:List Se}(hl:ls.length=336)(h16:us.length<=16)(ui:UpIn us){z:Int}(h:312<=z/\z<336):wdI (zlp ls us) z=wdI ls z:=by
 rw[yaen hl h16 ui (.inr ⟨by omega,h.2⟩)];unfold wdI;rw[List.getD_eq_getElem?_getD,List.getD_eq_getElem?_getD,yaog (by omega) us ls ui]
theorem yazf{ls:List Int}{k:Nat}{x z:Int}(hk:k<ls.length)(hz:0<=z):wdI (ls.set k x) z=if z=(k:Int)then x else wdI ls z:=by
 unfold wdI;rw[List.getD_eq_getElem?_getD,List.getD_eq_getElem?_getD]
 by_cases c:z=(k:Int)
 ·rw[if_pos c,c,Int.toNat_natCast,List.getElem?_set_self hk];rfl
 ·rw[if_neg c,List.getElem?_set_ne (by omega)]
theorem yazx{ls es:List Int}{ns:List Ino}{us:List Se}{x:Int}(hl:ls.length=336)(he:es.length=32)(h16:us.length<=16)(ui:UpIn us)(wv:Wv us)(nf:¬ (fpI ns<0/\fsI ns<0))(hx:0<=x/\x<1099511627776) :
  ∃ ls' es',zot (ls,[]) (wrS ns x++zdc (zdt us))=(ls',[])/\zxj (es,[]) (wrS ns x++zdc (zdt us))=(es',[])/\∀ e',zeo e'=true->pgV ls' [] es' [] e'=if e'=wrE ns then x else pgV ls [] es [] e':=by
 have b1:fpI ns<24:=by
  have:=(zcs (fun i=>!zey (zaw (zao ns) 1) (i:Int)) 24).2;unfold fpI;omega
 have b2:fsI ns<32:=by
  have:=(zcs (fun i=>!zey (zaw (zao ns) 2) (i:Int)) 32).2;unfold fsI;omega
 have ok2:=zpt ui wv h16
 by_cases q:0<=fpI ns
 ·have eS:wrS ns x=seg [up (312+fpI ns) x]:=by unfold wrS;rw[if_pos q];rfl
  have eW:wrE ns=4*fpI ns+1:=by unfold wrE;rw[if_pos q]
  obtain⟨k,ek⟩:∃ k:Nat,fpI ns=(k:Int):=⟨(fpI ns).toNat,by omega⟩
  have e1:zbs ls [up (312+fpI ns) x]=ls.set (312+k) x:=by
   show ls.set (312+fpI ns).toNat x=_
   rw[show(312+fpI ns).toNat=312+k by omega]
  refine⟨zlp (ls.set (312+k) x) us,es,?_,?_,fun e' t=>?_⟩
  ·rw[eS,zdi,zjb,e1,znc]
  ·rw[eS,zhz];rw[zfv (seg [up (312+fpI ns) x]) _ (zud (fun p hp=>by rw[List.mem_singleton.1 hp];exact⟨by show 0<=312+fpI ns/\312+fpI ns<336;omega,hx⟩))];exact zfv _ _ ok2
  ·rw[eW,ek];have t0:=(zcw t).1
   by_cases c:e'%4=1
   ·have lt:=yauu t c;rw[zwz c t0,zwz c t0,yafl (by rw[List.length_set];exact hl) h16 ui (by omega),yazf (by omega) (by omega)]
    by_cases r:e'=4*(k:Int)+1
    ·rw[if_pos r,if_pos (by omega)]
    ·rw[if_neg r,if_neg (by omega)]
   ·rw[if_neg (by omega)]
    by_cases d:e'%4=2
    ·rw[zvv d,zvv d]
    ·rw[zwo c d,zwo c d]
 ·have eS:wrS ns x=[⟨4,fsI ns,x⟩,⟨5,0,0⟩]:=by unfold wrS;rw[if_neg q]
  have eW:wrE ns=4*fsI ns+2:=by unfold wrE;rw[if_neg q]
  obtain⟨k,ek⟩:∃ k:Nat,fsI ns=(k:Int):=⟨(fsI ns).toNat,by omega⟩
  refine⟨zlp ls us,es.set k x,?_,?_,fun e' t=>?_⟩
  ·rw[eS,zdi];rw[show zot (ls,[]) [⟨4,fsI ns,x⟩,⟨5,0,0⟩]=(ls,[])from rfl,znc]
  ·rw[eS,zhz]
   have r2:zxj (es,[]) [⟨4,fsI ns,x⟩,⟨5,0,0⟩]=(es.set k x,[]):=by
    show((es.set (fsI ns).toNat x,[]):List Int×List Se)=_
    rw[ek,Int.toNat_natCast]
   rw[r2];exact zfv _ _ ok2
  ·rw[eW,ek];have t0:=(zcw t).1
   by_cases c:e'%4=1
   ·have lt:=yauu t c;rw[zwz c t0,zwz c t0,yafl hl h16 ui (by omega),if_neg (by omega)]
   ·by_cases d:e'%4=2
    ·rw[zvv d,zvv d]
     by_cases r:e'=4*(k:Int)+2
     ·rw[if_pos r,r,show((4*(k:Int)+2)/4).toNat=k by omega,List.getElem?_set_self (by omega)];rfl
     ·rw[if_neg r,List.getElem?_set_ne (by omega)]
    ·rw[zwo c d,zwo c d,if_neg (by omega)]
theorem yajk{ls es:List Int}{ns:List Ino}{ds:List Den}{s:ByteArray}{page:Int}(h:Idle ls es ns ds)(hs:s.size<=65536):rpR ls [] es [] s page=rpI ls [] es [] ns ds s page:=by
 unfold rpR;rw[if_neg (by omega),if_pos (by unfold dvB;rw[h.pm,h.bk,show riB (zbs ls [])=true from h.wi.ri];rfl)];rw[show zbc (zbs ls []) 16=ns from h.wi.inos,show zbh (zbs ls []) 24=ds from h.wi.dens]
theorem yavy{ls es:List Int}{ns:List Ino}{ds:List Den}{s:ByteArray}{page x:Int}(h:Idle ls es ns ds)(hs:s.size<=65536):wrR ls [] es [] s page x=wrI ns ds s page x:=by
 unfold wrR;rw[if_neg (by omega),if_pos (by unfold dvB;rw[h.pm,h.bk,show riB (zbs ls [])=true from h.wi.ri];rfl)];rw[show zbc (zbs ls []) 16=ns from h.wi.inos,show zbh (zbs ls []) 24=ds from h.wi.dens]
theorem yasc{ls es:List Int}{ns:List Ino}{ds:List Den}{s:ByteArray}{page x:Int}{l:List Mi}(h:Idle ls es ns ds)(hs:s.size<=65536)(e:wrI ns ds s page x=(l,0)) :
  l.length<=200/\0<l.length/\∃ ls' es' ns',ms l ls [] es []=⟨0,ls',[],es',[]⟩/\Idle ls' es' ns' ds/\∃ L L':List Int,psR ls [] es [] s=(L,0)/\psR ls' [] es' [] s=(L',0)/\((L'.length:Int)=if (L.length:Int)<page+1 then page+1 else(L.length:Int))/\L.length<=8/\L'.length<=8/\rpR ls' [] es' [] s page=(x,0)/\rpR ls' [] es' [] s (L'.length:Int)=(0,4)/\∀ j (hj:j<L'.length),L'[j]=if (j:Int)=page then x else if hl:j<L.length then L[j]else 0:=by
 obtain⟨-,ALL,LEN,-,-⟩:=ztw h (s:=s) (page:=page) (x:=x) (by rw[e]);rw[e]at ALL LEN;simp only at ALL LEN;obtain⟨i,p,ls',i16,p8,ef,ep,r,c,W⟩:=yaev h.wi h.c0 e;subst ep
 have f0:(flI ns ds s).2=0:=by
  unfold wrI at e
  by_cases q:(flI ns ds s).2=0
  ·exact q
  ·rw[if_neg q]at e;exact(Prod.mk.inj e).2
 have form:(¬ (fpI ns<0/\fsI ns<0)/\zat x=true)/\l=wrS ns x++zdc (zdt (wrU (i:Int) (p:Int) (zcx ns (i:Int)) (wrE ns))):=by
  unfold wrI at e;rw[if_pos f0,ef]at e;unfold wrF at e
  by_cases d:(0<=(p:Int)/\(p:Int)<8)/\zat x=true
  ·rw[if_pos d]at e
   by_cases f:fpI ns<0/\fsI ns<0
   ·rw[if_pos f]at e;cases e
   ·rw[if_neg f]at e;exact⟨⟨f,d.2⟩,(Prod.mk.inj e).1.symm⟩
  ·rw[if_neg d]at e;cases e
 obtain⟨⟨nf,wx⟩,F⟩:=form;obtain⟨i',hi',ei',k1⟩:=zgl h.wi.img f0
 have e':i'=i:=by rw[ef]at ei';omega
 subst e';obtain⟨te,he,new⟩:=yadv nf
 have sz:zcx ns (i':Int)=(zan ns i').size:=by unfold zcx;rw[Int.toNat_natCast]
 rw[sz]at F;have ww:=zpp h.wi i16 k1 p8 te he new
 have wv:Wv (wrU (i':Int) (p:Int) (zan ns i').size (wrE ns)):=by
  have:=zcw te;unfold wrU;refine Wv.cons (by omega) ?_
  split
  ·exact Wv.one (by omega)
  ·intro u hu;cases hu
 have ul:(wrU (i':Int) (p:Int) (zan ns i').size (wrE ns)).length<=2:=by unfold wrU;split<;>simp
 obtain⟨ls2,es2,r1,r2,PV⟩:=yazx (x:=x) h.wi.len (zcj h.bk).1 (show(wrU (i':Int) (p:Int) (zan ns i').size (wrE ns)).length<=16 by omega) ww.1 wv nf (zxf wx);rw[<- F]at r1 r2
 have els:ls2=ls':=by
  rw[r1]at r;exact(Prod.mk.inj r).1
 subst els;obtain⟨es3,m1,I⟩:=zjs h r c W ALL LEN (by rw[r2]);have mall:=yanf l ls [] es [] ALL (by simp only[List.length_nil];omega) (by simp only[List.length_nil];omega);rw[r1,r2]at mall
 have ees:es3=es2:=by
  rw[mall]at m1;injection m1 with _ _ _ q _;exact q.symm
 subst ees;have em:ms l ls [] es []=mr l ls [] es []:=ybam (by omega) (by rw[h.pm,h.bk,show yaps l=true from decide_eq_true (fun _ hk=>ALL _ (List.getElem_mem hk))];rfl)
 have hi:i'<ns.length:=by have:=h.wi.img.l16;omega
 obtain⟨sz',esz⟩:∃ sz':Int,sz'=(if (p:Int)<(zan ns i').size then(zan ns i').size else(p:Int)+1):=⟨_,rfl⟩
 rw[<- esz]at I
 have kk:∀ z,zal (ns.set i' (zxk (zan ns i').kind sz' (zan ns i').links ((zan ns i').map.set p (wrE ns)))) z=zal ns z:=fun z=>yaoj (x:=zxk (zan ns i').kind sz' (zan ns i').links ((zan ns i').map.set p (wrE ns))) (ws:=ns) (i:=i') rfl z
 have ff:=yawe (ds:=ds) (s:=s) kk
 have ix:zan (ns.set i' (zxk (zan ns i').kind sz' (zan ns i').links ((zan ns i').map.set p (wrE ns)))) i'=zxk (zan ns i').kind sz' (zan ns i').links ((zan ns i').map.set p (wrE ns)):=by rw[zbp (by rw[List.length_set];exact hi),List.getElem_set_self]
 have ok:=h.wi.img.ok i' i16;have szr:=(zbq ok).2.1
 have szp:0<=sz'/\sz'<=8/\(p:Int)<sz'/\(zan ns i').size<=sz':=by rw[esz];split<;>omega
 have ml:((zan ns i').map.set p (wrE ns)).length=8:=by rw[List.length_set];rfl
 have p1:psR ls [] es [] s=(pgL ls [] es [] (zan ns i') (zan ns i').size.toNat,0):=by
  rw[yacj h hs];unfold psI zcx;rw[if_pos f0,ef,Int.toNat_natCast]
 have p2:psR ls2 [] es3 [] s=(pgL ls2 [] es3 [] (zxk (zan ns i').kind sz' (zan ns i').links ((zan ns i').map.set p (wrE ns))) sz'.toNat,0):=by
  rw[yacj I hs];unfold psI zcx;rw[ff,if_pos f0,ef,Int.toNat_natCast,ix];rfl
 have EN:∀ j,j<8->((zan ns i').map.set p (wrE ns)).getD j 0=if j=p then wrE ns else(zan ns i').map.getD j 0:=fun j hj=>by
  rw[List.getD_eq_getElem?_getD,List.getD_eq_getElem?_getD]
  by_cases q:j=p
  ·subst q;rw[if_pos rfl,List.getElem?_set_self (by show j<8;omega)];rfl
  ·rw[if_neg q,List.getElem?_set_ne (by omega)]
 have TI:∀ j,j<8->zeo ((zan ns i').map.getD j 0)=true:=fun j hj=>by
  have m:=zhp (zbq ok).2.2.2.1 j hj;unfold zsv at m;rw[Bool.and_eq_true]at m;exact m.1
 have VA:∀ j,j<8->pgV ls2 [] es3 [] (((zan ns i').map.set p (wrE ns)).getD j 0)=if j=p then x else pgV ls [] es [] ((zan ns i').map.getD j 0):=fun j hj=>by
  rw[EN j hj]
  by_cases q:j=p
  ·rw[if_pos q,if_pos q,PV _ te,if_pos rfl]
  ·rw[if_neg q,if_neg q,PV _ (TI j hj),if_neg (fun z=>by
    by_cases y:(zan ns i').map.getD j 0=0
    ·exact he (z ▸ y)
    ·exact new (z ▸ ybax hi y))]
 have lpos:0<l.length:=by
  rw[F,List.length_append]
  have:0<(wrS ns x).length:=by unfold wrS;split<;>simp
  omega
 refine⟨LEN,lpos,ls2,es3,_,em.trans m1,I,_,_,p1,p2,?_,?_,?_,?_,?_,fun j hj=>?_⟩
 ·rw[zih,zih,esz]
  split<;>split<;>omega
 ·rw[zih];omega
 ·rw[zih];omega
 ·rw[yajk I hs];unfold rpI;rw[ff,if_pos f0,ef];unfold rpF zcx zod;rw[Int.toNat_natCast,ix,if_pos ⟨by omega,szp.2.2.1⟩,zjo ml,Int.toNat_natCast,VA p p8,if_pos rfl]
 ·rw[yajk I hs];unfold rpI;rw[ff,if_pos f0,ef];unfold rpF zcx;rw[zih,Int.toNat_natCast,ix,if_neg]
  show ¬ (_/\_<sz')
  omega
 ·have js:j<sz'.toNat:=by rw[zih]at hj;exact hj
  rw[yavl hj,zjo ml,VA j (by omega)]
  by_cases q:j=p
  ·rw[if_pos q,if_pos (by omega)]
  ·rw[if_neg q,if_neg (by omega)];have en:=yawu ok (j:=j) (by omega)
   split
   ·rename_i hl;rw[yavl hl]
   ·rename_i hl;rw[zih]at hl;rw[en.2 (by omega)];rfl
theorem yart{ns:List Ino}{ds:List Den}{s:ByteArray}{page x:Int}(h0:0<=page/\page<8)(hx:zat x=true)(h:¬ (wrI ns ds s page x).2=0):(wrI ns ds s page x).1=[]/\((wrI ns ds s page x).2=7\/(flI ns ds s).2=(wrI ns ds s page x).2):=by
 unfold wrI at h ⊢
 by_cases c:(flI ns ds s).2=0
 ·rw[if_pos c]at h ⊢;unfold wrF at h ⊢;rw[if_pos ⟨h0,hx⟩]at h ⊢
  by_cases f:fpI ns<0/\fsI ns<0
  ·rw[if_pos f];exact⟨rfl,.inl rfl⟩
  ·rw[if_neg f]at h;exact absurd rfl h
 ·rw[if_neg c];exact⟨rfl,.inr rfl⟩
end Go.Proofs.YtdiaiejmoocpmaaGreatDoor

namespace Go.Proofs.YtdiaiejmoocpmaaGreatDoor
open Go.RowKit
def putA(w:World)(b:Nat)(x y z:Value):World:=(((w.setCell ⟨b,0,none⟩ x).setCell ⟨b,1,none⟩ y).setCell ⟨b,2,none⟩ z)
theorem yags(w:World)(b:Nat)(x y z:Value):Outside b (b+1) w (putA w b x y z):=by
 unfold putA
 repeat (refine Outside.setCell ?_ (by simp only;omega) (by simp only;omega) _)
 exact Outside.refl _ _ _
theorem yawy(w:World)(a:Option Addr)(c:Nat)(h:a=none->c=0):RdM w (.slice a 0 c) []:=⟨rfl,_,_,rfl,⟨Nat.zero_le _,h⟩,fun h=>absurd h (by simp)⟩
theorem yalw(w:World)(b:Nat):RdT w (.slice (some ⟨b,0,none⟩) 0 0) []:=⟨rfl,_,_,rfl,⟨Nat.le_refl _,fun e=>by cases e⟩,fun h=>absurd h (by simp)⟩
theorem yado(v:Value)(ws es hs:List Int)(cd vl:Int)(nm:List ByteArray)(w:World)(h:RdFs w v ws es hs [] cd vl nm true)(h1:3<=ws.length)(h2:3<=es.length)(hh:3<=hs.length) :
  zC 87 #[v] w fun e w'=>∃ v' a n c,e=.returned (.tuple #[v',.agg #[.I cd,.I vl,.slice a n c],.I 0])/\RdFs w' v' ws es hs [] 0 0 [] false/\zB w w':=by
 have H1:=zaa h1;have H2:=zaa h2;have HH:=zaa hh;obtain⟨aW,cW,aP,cP,aS,cS,aQ,cQ,aH,cH,aT,cT,aN,cN,rfl,a,b,c,d⟩:=h;have RD:=zaa a;have RH:=zaa b;have RT:=zaa c;clear a b c d h1 h2 hh;rw[show([]:List Mi).length=0 from rfl]at RT ⊢
 obtain⟨V,hV⟩:=zE (((w.alloc (.cells #[.slice aW ws.length cW,.slice aP 0 cP,.slice aS es.length cS,.slice aQ 0 cQ,.slice aH hs.length cH,.slice aT 0 cT,.I cd,.I vl,.slice aN nm.length cN,.bool true] 37)).alloc (.cells zfc.toArray 37)).alloc (.cells #[.I 0,.I 0,.N] 35))
 have HZ:Hid (V.heap.size=w.heap.size+1+1+1):=by rw[hV];simp[Hid]
 have BV:Hid (zB w V):=by rw[hV];exact((zR.alloc zL _).alloc (by simp) _).alloc (by simp<;>omega) _
 have XV:Hid (V.heap[w.heap.size]?=some (.cells #[.slice aW ws.length cW,.slice aP 0 cP,.slice aS es.length cS,.slice aQ 0 cQ,.slice aH hs.length cH,.slice aT 0 cT,.I cd,.I vl,.slice aN nm.length cN,.bool true] 37 (0,0))):=by rw[hV];exact zaj (zaj (zaf rfl))
 have YV:Hid (V.heap[w.heap.size+1]?=some (.cells zfc.toArray 37 (0,0))):=by rw[hV];exact zaj (zaf (by simp))
 have ZV:Hid (V.heap[w.heap.size+1+1]?=some (.cells #[.I 0,.I 0,.N] 35 (0,0))):=by rw[hV];exact zaf (by simp)
 unfold zfc at hV;go_enter Tryz.func87,Tryz.ntmps87;go_upto_region 1 with fail;rw[<- hV];clear hV
 obtain⟨V2,hV2⟩:=zE ((V.alloc (.cells #[] 9)).alloc (.cells #[.I 0,.I 0,.slice (some ⟨V.heap.size,0,none⟩) 0 0] 35))
 have B2:Hid (zB V V2):=by rw[hV2];exact(zR.alloc zL _).alloc (by simp) _
 have N2:Hid (V2.heap[V.heap.size+1]?=some (.cells #[.I 0,.I 0,.slice (some ⟨V.heap.size,0,none⟩) 0 0] 35 (0,0))):=by rw[hV2];exact zaf (by simp)
 have Z2:Hid (V2.heap.size=V.heap.size+1+1):=by rw[hV2];simp[Hid]
 have X2:=zaa ((B2.o.block _ (by have q1:=HZ.o;have q2:=Z2.o;omega)).trans XV.o);go_upto_region 2 with fail;rw[<- hV2];clear hV2;obtain⟨x0,x1,x2,x3,x4,x5,x6,x7,x8,x9,-⟩:=zam X2.o
 obtain⟨V3,hV3⟩:=zE (V2.alloc (.cells #[.I cd,.I vl,.slice aN nm.length cN] 35))
 have B3:Hid (zB V2 V3):=by rw[hV3];exact zR.alloc zL _
 have A3:Hid (V3.heap[V2.heap.size]?=some (.cells #[.I cd,.I vl,.slice aN nm.length cN] 35 (0,0))):=by rw[hV3];exact zaf rfl
 have Z3:Hid (V3.heap.size=V2.heap.size+1):=by rw[hV3];simp[Hid]
 have X3:=zaa ((B3.o.block _ (by have q1:=HZ.o;have q2:=Z2.o;have q3:=Z3.o;omega)).trans X2.o);have N3:=zaa ((B3.o.block _ (by have q1:=HZ.o;have q2:=Z2.o;have q3:=Z3.o;omega)).trans N2.o);have BB3:=zaa (zab B2.o B3.o (by have q1:=HZ.o;have q2:=Z2.o;have q3:=Z3.o;omega));go_upto_region 7 with fail;rw[<- hV3];clear hV3 x0 x1 x2 x3 x4 x5 x6 x7 x8 x9 N2 X2 XV;obtain⟨x0,x1,x2,x3,x4,x5,x6,x7,x8,x9,g0,g1,g2,g3,g4,g5,g6,g7,g8,g9⟩:=zam X3.o;obtain⟨n0,n1,n2,-,-,-⟩:=tri3 N3.o
 obtain⟨V4,hV4⟩:=zE ((((V3.setCell ⟨w.heap.size,6,none⟩ (.I 0)).setCell ⟨w.heap.size,7,none⟩ (.I 0)).setCell ⟨w.heap.size,8,none⟩ (.slice (some ⟨V.heap.size,0,none⟩) 0 0)).setCell ⟨w.heap.size,9,none⟩ (.bool false))
 have X4:Hid (V4.heap[w.heap.size]?=some (.cells #[.slice aW ws.length cW,.slice aP 0 cP,.slice aS es.length cS,.slice aQ 0 cQ,.slice aH hs.length cH,.slice aT 0 cT,.I 0,.I 0,.slice (some ⟨V.heap.size,0,none⟩) 0 0,.bool false] 37 (0,0))):=by rw[hV4];exact zqd (zmb (zqc (zqe X3.o _) _) _) _
 have O4:Hid (Outside w.heap.size (w.heap.size+1) V3 V4):=by
  rw[hV4];unfold Hid
  repeat (refine Outside.setCell ?_ (by simp only;omega) (by simp only;omega) _)
  exact Outside.refl _ _ _
 have S4:=zaa (Soft.outside O4.o X3.o rfl)
 have Z5:Hid (V3.heap.size=V4.heap.size):=by rw[hV4];simp[World.setCell,Hid]
 have A4:=zaa ((O4.o.block _ (by have q1:=HZ.o;have q2:=Z2.o;have q3:=Z3.o;have q5:=Z5.o;omega) (by have q1:=HZ.o;have q2:=Z2.o;have q3:=Z3.o;have q5:=Z5.o;omega)).trans A3.o);have Y4:=zaa ((O4.o.block (w.heap.size+1) (by have q1:=HZ.o;have q2:=Z2.o;have q3:=Z3.o;have q5:=Z5.o;omega) (by have q1:=HZ.o;have q2:=Z2.o;have q3:=Z3.o;have q5:=Z5.o;omega)).trans ((BB3.o.block _ (by have q1:=HZ.o;have q2:=Z2.o;have q3:=Z3.o;have q5:=Z5.o;omega)).trans YV.o));have Z4:=zaa ((O4.o.block (w.heap.size+1+1) (by have q1:=HZ.o;have q2:=Z2.o;have q3:=Z3.o;have q5:=Z5.o;omega) (by have q1:=HZ.o;have q2:=Z2.o;have q3:=Z3.o;have q5:=Z5.o;omega)).trans ((BB3.o.block _ (by have q1:=HZ.o;have q2:=Z2.o;have q3:=Z3.o;have q5:=Z5.o;omega)).trans ZV.o));have B4:=zaa ((zab BV.o BB3.o (by have q1:=HZ.o;have q2:=Z2.o;have q3:=Z3.o;have q5:=Z5.o;omega)).trans (O4.o.below (B:=w.heap.size) zL (by have q1:=HZ.o;have q2:=Z2.o;have q3:=Z3.o;have q5:=Z5.o;omega)));have SV:=zaa ((Soft.of_below BB3.o).trans S4.o);go_upto_region 9 with fail;rw[<- hV4];clear hV4 x0 x1 x2 x3 x4 x5 x6 x7 x8 x9 g0 g1 g2 g3 g4 g5 g6 g7 g8 g9 n0 n1 n2 X3 N3 A3 YV ZV;obtain⟨x0,x1,x2,x3,x4,x5,x6,x7,x8,x9,-⟩:=zam X4.o;obtain⟨n0,n1,n2,-,-,-⟩:=tri3 A4.o;have Y4':V4.heap[w.heap.size+1]?=some (.cells #[.N,.N,.N,.N,.N,.N,.I 0,.I 0,.N,.bool false] 37 (0,0)):=Y4.o;obtain⟨y0,y1,y2,y3,y4,y5,y6,y7,y8,y9,g0,g1,g2,g3,g4,g5,g6,g7,g8,g9⟩:=zam Y4';obtain⟨m0,m1,m2,k0,k1,k2⟩:=tri3 Z4.o;clear Y4'
 have eV:V2.heap.size=w.heap.size+1+1+1+1+1:=by rw[Z2.o,HZ.o]
 rw[eV]at n0 n1 n2 ⊢;have O5:=zaa (zca V4 (w.heap.size+1) (.slice aW ws.length cW) (.slice aP 0 cP) (.slice aS es.length cS) (.slice aQ 0 cQ) (.slice aH hs.length cH) (.slice aT 0 cT) (.I 0) (.I 0) (.slice (some ⟨V.heap.size,0,none⟩) 0 0) (.bool false));have E5:=zaa (ztq V4 (w.heap.size+1) (.slice aW ws.length cW) (.slice aP 0 cP) (.slice aS es.length cS) (.slice aQ 0 cQ) (.slice aH hs.length cH) (.slice aT 0 cT) (.I 0) (.I 0) (.slice (some ⟨V.heap.size,0,none⟩) 0 0) (.bool false));have S5:=zaa (Soft.outside O5.o Y4.o rfl);have Z6:=zaa ((O5.o.block (w.heap.size+1+1) (by have q1:=HZ.o;have q2:=Z2.o;have q3:=Z3.o;have q5:=Z5.o;omega) (by omega)).trans Z4.o);have B5:=zaa (B4.o.trans (O5.o.below (B:=w.heap.size) (by omega) (by have q1:=HZ.o;have q2:=Z2.o;have q3:=Z3.o;have q5:=Z5.o;omega)))
 obtain⟨V5,hV5⟩:=zE (zhl V4 (w.heap.size+1) (.slice aW ws.length cW) (.slice aP 0 cP) (.slice aS es.length cS) (.slice aQ 0 cQ) (.slice aH hs.length cH) (.slice aT 0 cT) (.I 0) (.I 0) (.slice (some ⟨V.heap.size,0,none⟩) 0 0) (.bool false))
 rw[<- hV5]at O5 S5 Z6 B5 E5;have O6:=zaa (yags V5 (w.heap.size+1+1) (.I cd) (.I vl) (.slice aN nm.length cN));have S6:=zaa (((SV.o.trans S5.o).trans (Soft.outside O6.o Z6.o rfl)).drew);have B6:=zaa (B5.o.trans (O6.o.below (B:=w.heap.size) (by omega) (by have q6:=E5.o;have q1:=HZ.o;have q2:=Z2.o;have q3:=Z3.o;have q5:=Z5.o;omega))).drew
 have F6:Hid (RdFs (putA V5 (w.heap.size+1+1) (.I cd) (.I vl) (.slice aN nm.length cN)).drew (.agg #[.slice aW ws.length cW,.slice aP 0 cP,.slice aS es.length cS,.slice aQ 0 cQ,.slice aH hs.length cH,.slice aT 0 cT,.I 0,.I 0,.slice (some ⟨V.heap.size,0,none⟩) 0 0,.bool false]) ws es hs [] 0 0 [] false) :=
  ⟨aW,cW,aP,cP,aS,cS,aQ,cQ,aH,cH,aT,cT,_,_,rfl,(RD.o.below BV.o).soft S6.o H1.o H2.o,RdI.soft (Rd.below RH.o BV.o) S6.o HH.o,RdM.soft (Rd.below RT.o BV.o) S6.o,yalw _ _⟩
 unfold zhl at hV5;clear O5 S5 Z6 B5 E5 O6 S6 SV S4 O4 X4 A4 Y4 Z4 B4 BB3 B3 B2 Z2 Z3 Z5 RD RH RT;go_wp2_with fail
 go_region
 all_goals
  go_wp2_with fail;rw[<- hV5];refine bodyPost_ret (v:=.tuple #[.agg #[.slice aW ws.length cW,.slice aP 0 cP,.slice aS es.length cS,.slice aQ 0 cQ,.slice aH hs.length cH,.slice aT 0 cT,.I 0,.I 0,.slice (some ⟨V.heap.size,0,none⟩) 0 0,.bool false],.agg #[.I cd,.I vl,.slice aN nm.length cN],.I 0]) (by simp[results,Tryz.results87,go_sem,hV5,y0,y1,y2,y3,y4,y5,y6,y7,y8,y9,m0,m1,m2]) rfl ?_;exact⟨_,_,_,_,rfl,F6.o,B6.o⟩
def opB(k:Int)(p t:ByteArray)(g x:Int):Bool:=decide ((1<=k/\k<=10)/\p.size<=65536/\t.size<=65536/\(k=4\/k=5\/t.size=0)/\(k=6\/x=0)/\((6<=k/\k<=8)\/g=0))
end Go.Proofs.YtdiaiejmoocpmaaGreatDoor
