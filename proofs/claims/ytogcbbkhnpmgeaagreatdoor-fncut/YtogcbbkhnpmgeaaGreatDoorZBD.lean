import Derived.Test.YtogcbbkhnpmgeaaGreatDoorRdC
import Derived.Test.YtogcbbkhnpmgeaaGreatDoorZBA
set_option maxRecDepth 100000
set_option maxHeartbeats 8000000
namespace Go.Proofs.YtogcbbkhnpmgeaaGreatDoor
open Go.RowKit
theorem yaot{ws:List Int}{ps:List St}(h:pmB ws ps=false):riC ws ps=1/\riN ws ps=[]/\riD ws ps=[]:=by
 have e:riC ws ps=1:=by unfold riC;rw[h];rfl
 exact⟨e,by unfold riN;rw[e];rfl,by unfold riD;rw[e];rfl⟩
theorem yago{ws:List Int}{ps:List St}(h:pmB ws ps=true)(q:riB (zbz ws ps)=false):riC ws ps=3/\riN ws ps=[]/\riD ws ps=[]:=by
 have e:riC ws ps=3:=by unfold riC;rw[h,q];rfl
 exact⟨e,by unfold riN;rw[e];rfl,by unfold riD;rw[e];rfl⟩
theorem yauv{ws:List Int}{ps:List St}(h:pmB ws ps=true)(q:riB (zbz ws ps)=true):riC ws ps=0/\riN ws ps=zbb (zbz ws ps) 16/\riD ws ps=zbc (zbz ws ps) 24:=by
 have e:riC ws ps=0:=by unfold riC;rw[h,q];rfl
 exact⟨e,by unfold riN;rw[if_pos e],by unfold riD;rw[if_pos e]⟩
theorem zhk(w:World)(lo hi:Nat):RowIm w lo hi (.agg #[.N,.N]) [] []:=⟨_,_,rfl,Row.nil _ _ _ _ _,Row.nil _ _ _ _ _⟩
theorem zsi{ws:List Int}{ps:List St}(h:pmB ws ps=true)(n:Nat):∀ k (hk:k<(zbb (zbz ws ps) n).length),(zbb (zbz ws ps) n)[k].R:=by
 intro k hk;have hm:(zbb (zbz ws ps) n)[k]∈(List.range n).map (zdj (zbz ws ps)):=List.getElem_mem hk;obtain⟨j,_,e⟩:=List.mem_map.1 hm;rw[<- e];exact yarn h j
theorem zir(ls:List Int)(n:Nat):∀ k (hk:k<(zbc ls n).length),(zbc ls n)[k].name.size<=maxLen:=by
 intro k hk;have hm:(zbc ls n)[k]∈(List.range n).map (zfe ls):=List.getElem_mem hk;obtain⟨j,_,e⟩:=List.mem_map.1 hm;rw[<- e];exact yacd ls j
theorem zqh{w:World}{lo hi lo' hi':Nat}{v:Value}{xs:List Ino}{ds:List Den}(h:RowIm w lo hi v xs ds)(h1:lo'<=lo)(h2:hi<=hi'):RowIm w lo' hi' v xs ds:=by
 obtain⟨vI,vD,e,a,b⟩:=h;exact⟨vI,vD,e,a.wide h1 h2,b.wide h1 h2⟩
theorem yaex{w:World}{lo hi:Nat}{b1 b2 c1 c2 n1 n2:Nat}{xs:List Ino}{ds:List Den}{b:Nat}{cs:Array Value}{fr:Nat×Nat}(h:RowIm w lo hi (.agg #[.slice (some ⟨b1,0,none⟩) n1 c1,.slice (some ⟨b2,0,none⟩) n2 c2]) xs ds)(hb:w.heap[b]?=some (.cells cs 51 fr))(v0 v1:Value):RowIm ((w.setCell ⟨b,0,none⟩ v0).setCell ⟨b,1,none⟩ v1) lo hi (.agg #[.slice (some ⟨b1,0,none⟩) n1 c1,.slice (some ⟨b2,0,none⟩) n2 c2]) xs ds:=by
 obtain⟨vI,vD,e,h1,h2⟩:=h;injection e with e
 obtain⟨rfl,rfl⟩:vI=.slice (some ⟨b1,0,none⟩) n1 c1/\vD=.slice (some ⟨b2,0,none⟩) n2 c2:=by
  have:=congrArg Array.toList e;simp at this;exact⟨this.1.symm,this.2.symm⟩
 have T1:=zco h1.1 hb zkm;have T2:=zco h2.1 hb zkz;exact⟨_,_,rfl,⟨ownsRow_setCell_other (ownsRow_setCell_other h1.1 T1 _) T1 _,h1.2⟩,⟨ownsRow_setCell_other (ownsRow_setCell_other h2.1 T2 _) T2 _,h2.2⟩⟩
def dvN(ws:List Int)(ps:List St)(es:List Int)(qs:List Se):List Ino:=if dvB ws ps es qs=true then zbb (zbz ws ps) 16 else[]
def dvD(ws:List Int)(ps:List St)(es:List Int)(qs:List Se):List Den:=if dvB ws ps es qs=true then zbc (zbz ws ps) 24 else[]
theorem yapd{ws:List Int}{ps:List St}{es:List Int}{qs:List Se}(h:(pmB ws ps&&zfj es qs)=false):dvB ws ps es qs=false/\dvN ws ps es qs=[]/\dvD ws ps es qs=[]:=by
 have e:dvB ws ps es qs=false:=by unfold dvB;rw[h];rfl
 exact⟨e,by unfold dvN;rw[e];rfl,by unfold dvD;rw[e];rfl⟩
theorem yarz{ws:List Int}{ps:List St}{es:List Int}{qs:List Se}(h:(pmB ws ps&&zfj es qs)=true):dvB ws ps es qs=(riC ws ps == 0)/\dvN ws ps es qs=riN ws ps/\dvD ws ps es qs=riD ws ps:=by
 have p:pmB ws ps=true:=by rw[Bool.and_eq_true]at h;exact h.1
 have e:dvB ws ps es qs=riB (zbz ws ps):=by unfold dvB;rw[h];rfl
 cases q:riB (zbz ws ps) with
 | false =>
  obtain⟨a,b,c⟩:=yago p q;rw[q]at e;exact⟨by rw[e,a];rfl,by unfold dvN;rw[e,b];rfl,by unfold dvD;rw[e,c];rfl⟩
 | true =>
  obtain⟨a,b,c⟩:=yauv p q;rw[q]at e;exact⟨by rw[e,a];rfl,by unfold dvN;rw[e,b];rfl,by unfold dvD;rw[e,c];rfl⟩
theorem yajm{w:World}{lo hi:Nat}{vI vD:Value}{xs:List Ino}{ds:List Den}{b:Nat}{cs:Array Value}{fr:Nat×Nat}(h1:Row w 87 11 lo hi vI xs.length (inos xs))(h2:Row w 90 3 lo hi vD ds.length (dens ds))(hb:w.heap[b]?=some (.cells cs 51 fr))(v0 v1:Value):RowIm ((w.setCell ⟨b,0,none⟩ v0).setCell ⟨b,1,none⟩ v1) lo hi (.agg #[vI,vD]) xs ds:=by
 have T1:=zco h1.1 hb zkm;have T2:=zco h2.1 hb zkz;exact⟨_,_,rfl,⟨ownsRow_setCell_other (ownsRow_setCell_other h1.1 T1 _) T1 _,h1.2⟩,⟨ownsRow_setCell_other (ownsRow_setCell_other h2.1 T2 _) T2 _,h2.2⟩⟩
theorem zyh(vd v:Value)(ws:List Int)(ps:List St)(es:List Int)(qs:List Se)(ns:List Ino)(ds:List Den)(s:ByteArray)(page:Int)(w:World)(hd:RdDev w vd ws ps es qs)(hP:pmB ws ps=true)(hB:zfj es qs=true)(h:RdIm w v ns ds)(hi:zcr ns ds=true)(hs:s.size<=65536) :
  zC 77 #[vd,v,.string s,.I page] w fun e w'=>e=.returned (.tuple #[.I (rpI ws ps es qs ns ds s page).1,.I (rpI ws ps es qs ns ds s page).2])/\zB w w':=by
 have LV:=zaa (fun w1 (hb:zB w w1) z (hz:zef z=true)=>zgz vd ws ps es qs z w1 (hd.below hb) hP hB hz);have LL:=zaa (fun w1 (hb:zB w w1)=>zis v ns ds s w1 (h.below hb) hi hs);have EL:=zaa (show rpI ws ps es qs ns ds s page=if (flI ns ds s).2=0 then rpF ws ps es qs ns (flI ns ds s).1 page else(0,(flI ns ds s).2)from rfl);have LO:=zaa (fun c=>zfh (s:=s) (zbi.1 hi) c);have EF:=zaa (fun i=>show rpF ws ps es qs ns i page=if 0<=page/\page<zcz ns i then(pgV ws ps es qs (zoz ns i page),0) else(0,4)from rfl)
 have SZ:Hid (∀ i:Nat,i<16->0<=zcz ns (i:Int)/\zcz ns (i:Int)<=8):=fun i hk=>(zbr ((zbi.1 hi).ok i hk)).2.1
 have TI:Hid (∀ i:Nat,i<16->∀ j:Nat,j<8->zef (zoz ns (i:Int) (j:Int))=true):=fun i hk j hj=>by
  refine(zet ((zbi.1 hi).ok i hk)).1 _ ?_
  show(zam ns i).map.getD j 0∈_
  rw[List.getD_eq_getElem?_getD,List.getElem?_eq_getElem (show j<(zam ns i).map.length from hj)];exact List.getElem_mem _
 obtain⟨l16,l24,_⟩:=zaw hi;have L16:=zaa l16;obtain⟨dW,eW,dP,eP,dS,eS,dQ,eQ,rfl,-,-⟩:=hd.form;obtain⟨vW,vP,rfl,h1,h2⟩:=h;obtain⟨aW,cW,rfl,_,hcW⟩:=h1.shape;obtain⟨aP,cP,rfl,_,hcP⟩:=h2.shape;obtain⟨bW,oW,rfl,hblW,hcellW⟩:=hcW (by omega)
 have HM:Hid (∀ k,k<16->∀ w',zB w w'->w'.cell? ⟨bW,oW+k*11+1,none⟩=some (.I (zcz ns (k:Int)))/\∀ j,j<8->w'.cell? ⟨bW,oW+k*11+3+j,none⟩=some (.I (zoz ns (k:Int) (j:Int)))):=fun k hk w' hb=>by
  unfold zcz zoz;rw[Int.toNat_natCast,zbj (by omega:k<ns.length)];obtain⟨a0,a1,a2,a3,a4,a5,a6,a7,a8,a9,a10⟩:=hcellW k (by omega);refine⟨(hb.cell (p:=⟨bW,oW+k*11+1,none⟩) hblW).trans a1,fun j hj=>?_⟩;rw[Int.toNat_natCast]
  rcases(show j=0\/j=1\/j=2\/j=3\/j=4\/j=5\/j=6\/j=7 by omega)with rfl|rfl|rfl|rfl|rfl|rfl|rfl|rfl
  ·exact(hb.cell (p:=⟨bW,oW+k*11+3,none⟩) hblW).trans a3
  ·exact(hb.cell (p:=⟨bW,oW+k*11+4,none⟩) hblW).trans a4
  ·exact(hb.cell (p:=⟨bW,oW+k*11+5,none⟩) hblW).trans a5
  ·exact(hb.cell (p:=⟨bW,oW+k*11+6,none⟩) hblW).trans a6
  ·exact(hb.cell (p:=⟨bW,oW+k*11+7,none⟩) hblW).trans a7
  ·exact(hb.cell (p:=⟨bW,oW+k*11+8,none⟩) hblW).trans a8
  ·exact(hb.cell (p:=⟨bW,oW+k*11+9,none⟩) hblW).trans a9
  ·exact(hb.cell (p:=⟨bW,oW+k*11+10,none⟩) hblW).trans a10
 clear h1 h2 hi hs hcW hcP hcellW l16 l24 hd hP hB
 obtain⟨W,hW⟩:=zE ((w.alloc (.cells #[.slice dW ws.length eW,.slice dP ps.length eP,.slice dS es.length eS,.slice dQ qs.length eQ] 31)).alloc (.cells #[.slice (some ⟨bW,oW,none⟩) ns.length cW,.slice aP ds.length cP] 51))
 have hzW:W.heap.size=w.heap.size+1+1:=by rw[hW];simp
 have CD:Hid (∀ w',zB W w'->w'.cell? ⟨w.heap.size,0,none⟩=some (.slice dW ws.length eW)/\w'.cell? ⟨w.heap.size,1,none⟩=some (.slice dP ps.length eP)/\w'.cell? ⟨w.heap.size,2,none⟩=some (.slice dS es.length eS)/\w'.cell? ⟨w.heap.size,3,none⟩=some (.slice dQ qs.length eQ)):=fun w' hb=>by
  have:w'.heap[w.heap.size]?=some (.cells #[.slice dW ws.length eW,.slice dP ps.length eP,.slice dS es.length eS,.slice dQ qs.length eQ] 31 (0,0)):=(hb.block _ (by omega)).trans (by rw[hW];exact zal (zah rfl));obtain⟨x0,x1,x2,x3,-,-,-,-⟩:=zao this;exact⟨x0,x1,x2,x3⟩
 have CA:Hid (∀ w',zB W w'->w'.cell? ⟨w.heap.size+1,0,none⟩=some (.slice (some ⟨bW,oW,none⟩) ns.length cW)/\w'.cell? ⟨w.heap.size+1,1,none⟩=some (.slice aP ds.length cP)):=fun w' hb=>by
  have:w'.heap[w.heap.size+1]?=some (.cells #[.slice (some ⟨bW,oW,none⟩) ns.length cW,.slice aP ds.length cP] 51 (0,0)):=(hb.block _ (by omega)).trans (by
   rw[hW];have:=zah (w:=w.alloc (.cells #[.slice dW ws.length eW,.slice dP ps.length eP,.slice dS es.length eS,.slice dQ qs.length eQ] 31)) (o:=.cells #[.slice (some ⟨bW,oW,none⟩) ns.length cW,.slice aP ds.length cP] 51) rfl;rw[World.size_alloc]at this
   exact this)
  exact⟨(zac this).1,(zac this).2.1⟩
 have BW:Hid (zB w W):=by rw[hW];exact(zR.alloc zL _).alloc (by simp) _
 obtain⟨x0,x1⟩:=CA.o _ zR
 have hz:w.heap.size+1<W.heap.size:=by omega
 clear hzW;generalize rpI ws ps es qs ns ds s page=res at *;generalize flI ns ds s=lr at *;obtain⟨li,lc⟩:=lr;simp only at EL LO LL;go_enter Tryz.func77,Tryz.ntmps77;go_wp2_with fail;rw[<- hW];clear hW x0 x1;refine(LL.o _ BW.o).mono ?_;rintro e w1 ⟨rfl,hb1⟩;have A1:=zaa hb1;have B1:=zaa (zab BW.o A1.o BW.o.size);clear hb1 LL
 by_cases c:lc=0
 case neg =>
  rw[if_neg c]at EL;obtain rfl:=EL.o
  have q:(lc != 0)=true:=by rw[bne_iff_ne];exact c
  clear EL LO c;go_wp2;go_ret2;exact⟨rfl,B1.o⟩
 subst c;rw[if_pos rfl]at EL;obtain⟨i,i16,ei,-⟩:=LO.o rfl;subst ei;rw[EF.o]at EL;have HMi:=zaa (HM.o i i16);have TIi:=zaa (TI.o i i16);obtain⟨z0,z8⟩:=SZ.o i i16
 have i1:i<ns.length:=by have:=L16.o;omega
 have i0:(0:Int)<=(i:Int):=by omega
 have il:(i:Int)<(ns.length:Int):=by omega
 clear HM EF LO L16 SZ TI;obtain⟨x0,x1⟩:=CA.o _ A1.o;have y0:=(HMi.o _ B1.o).1;generalize zcz ns (i:Int)=sz at *
 by_cases c:0<=page/\page<sz
 case neg =>
  rw[if_neg c]at EL;obtain rfl:=EL.o;clear EL;go_wp2_with fail;refine(zfl _ _ _ _ (by omega)).mono ?_;rintro e w' ⟨rfl,hw'⟩;subst w';go_wp2;go_ret2;exact⟨rfl,B1.o⟩
 rw[if_pos c]at EL
 obtain⟨j,rfl⟩:∃ j:Nat,page=(j:Int):=⟨page.toNat,by omega⟩
 have j8:j<8:=by omega
 have te:=zaa (TIi.o j j8);have LV2:=zaa (fun w1 hb=>LV.o w1 hb _ te.o)
 have j0:(0:Int)<=(j:Int):=by omega
 have j1:(j:Int)<8:=by omega
 have KE:Hid (∀ w',zB W w'->w'.cell? ⟨w.heap.size,0,none⟩=some (.slice dW ws.length eW)/\w'.cell? ⟨w.heap.size,1,none⟩=some (.slice dP ps.length eP)/\w'.cell? ⟨w.heap.size,2,none⟩=some (.slice dS es.length eS)/\w'.cell? ⟨w.heap.size,3,none⟩=some (.slice dQ qs.length eQ)/\w'.cell? ⟨w.heap.size+1,0,none⟩=some (.slice (some ⟨bW,oW,none⟩) ns.length cW)/\w'.cell? ⟨bW,oW+i*11+3+j,none⟩=some (.I (zoz ns (i:Int) (j:Int)))):=fun w' hb =>
  ⟨(CD.o w' hb).1,(CD.o w' hb).2.1,(CD.o w' hb).2.2.1,(CD.o w' hb).2.2.2,(CA.o w' hb).1,(HMi.o w' (zab BW.o hb BW.o.size)).2 j j8⟩
 generalize zoz ns (i:Int) (j:Int)=pz at *;go_wp2_with fail;refine(zbg _ _ _ _ (by omega)).mono ?_;rintro e w' ⟨rfl,hw'⟩;subst w';clear c y0 HMi TIi te LV CD CA x0 x1;obtain⟨x0,x1,x2,x3,x4,x5⟩:=KE.o _ A1.o;go_wp2_with fail
 go_region_held3 (fun w'=>w'.cell? ⟨w.heap.size,0,none⟩=some (.slice dW ws.length eW)/\w'.cell? ⟨w.heap.size,1,none⟩=some (.slice dP ps.length eP)/\w'.cell? ⟨w.heap.size,2,none⟩=some (.slice dS es.length eS)/\w'.cell? ⟨w.heap.size,3,none⟩=some (.slice dQ qs.length eQ)/\w'.cell? ⟨w.heap.size+1,0,none⟩=some (.slice (some ⟨bW,oW,none⟩) ns.length cW)/\w'.cell? ⟨bW,oW+i*11+3+j,none⟩=some (.I pz))
  (first | with_reducible exact KE.o _ A2.o | with_reducible exact KE.o _ A1.o | with_reducible exact KE.o _ A1.o.drew)
  (first
   | (go_at_call 145;refine(LV2.o _ (by first | with_reducible exact B1.o | with_reducible exact B1.o.drew)).mono ?_;rintro e w2 ⟨rfl,hb2⟩;have A2:=zaa (zab A1.o (zdr hb2) A1.o.size);have B2:=zaa (zab B1.o (zdr hb2) B1.o.size);clear hb2;obtain⟨r0,r1,r2,r3,r4,r5⟩:=KE.o _ A2.o))
 all_goals
  obtain rfl:=EL.o;go_wp2;go_ret2;exact⟨rfl,B2.o⟩
theorem zll{ws:List Int}{ps:List St}{es:List Int}{qs:List Se}(h:dvB ws ps es qs=true):pmB ws ps=true/\zfj es qs=true/\dvN ws ps es qs=zbb (zbz ws ps) 16/\dvD ws ps es qs=zbc (zbz ws ps) 24/\zcr (zbb (zbz ws ps) 16) (zbc (zbz ws ps) 24)=true:=by
 have q:=h;unfold dvB at q;rw[Bool.and_eq_true,Bool.and_eq_true]at q;obtain⟨⟨a,b⟩,r⟩:=q;unfold riB at r;rw[Bool.and_eq_true,Bool.and_eq_true]at r;exact⟨a,b,by unfold dvN;rw[if_pos h],by unfold dvD;rw[if_pos h],r.2.2⟩
theorem yasd(ws:List Int)(ps:List St)(es:List Int)(qs:List Se)(x:Ino)(k:Nat):(pgL ws ps es qs x k).length=k:=by simp[pgL]
theorem zrb(u:St):∀ (l:List St) (i:Nat),jrn i (l++[u])=jrn i l++[⟨9+2*((i+l.length:Nat):Int),u.at_,false⟩,⟨9+2*((i+l.length:Nat):Int)+1,u.val,false⟩]
 | [],i=>by simp[jrn]
 | x::l,i=>by
  rw[List.cons_append,jrn,zrb u l (i+1),jrn,show i+1+l.length=i+(x::l).length by simp;omega];rfl
theorem zow:∀ (l:List St) (i:Nat),(jrn i l).length=2*l.length
 | [],i=>rfl
 | x::l,i=>by rw[jrn];simp[zow l (i+1)];omega
def jlM(us:List Se)(m:Nat):List Mi:=(jrn 0 ((zdw us).take m)).map stM
def jlP(us:List Se)(m:Nat):List Int:=(jrn 0 ((zdw us).take m)).map (·.at_)
theorem yajx(us:List Se)(m:Nat):(jlM us m).length<=2*m:=by simp[jlM,zow];omega
theorem yaii(us:List Se)(m:Nat):(jlP us m).length<=2*m:=by simp[jlP,zow];omega
theorem take_len{us:List Se}{m:Nat}(h:m<=us.length):((zdw us).take m).length=m:=by rw[List.length_take,zcf];omega
theorem yalh(us:List Se)(m:Nat)(h:m<us.length):jlM us (m+1)=jlM us m++[⟨1,9+2*(m:Int),us[m].at_⟩,⟨1,9+2*(m:Int)+1,us[m].val⟩]:=by
 unfold jlM;rw[zke _ _ _ (zrj us m h),zrb,take_len (by omega),List.map_append,Nat.zero_add];rfl
theorem yakx(us:List Se)(m:Nat)(h:m<us.length):jlP us (m+1)=jlP us m++[9+2*(m:Int),9+2*(m:Int)+1]:=by
 unfold jlP;rw[zke _ _ _ (zrj us m h),zrb,take_len (by omega),List.map_append,Nat.zero_add];rfl
theorem yaqm(us:List Se):jlM us us.length=(jrn 0 (zdw us)).map stM:=by unfold jlM;rw[List.take_of_length_le (by rw[zcf];omega)]
theorem yapw(us:List Se):jlP us us.length=(jrn 0 (zdw us)).map (·.at_):=by unfold jlP;rw[List.take_of_length_le (by rw[zcf];omega)]
theorem zvf:∀ (l:List St) (i:Nat),∀ s∈jrn i l,9+2*(i:Int)<=s.at_/\s.at_<9+2*((i+l.length:Nat):Int)
 | [],i=>by simp[jrn]
 | x::l,i=>by
  intro s hs;rw[jrn]at hs;simp only[List.mem_cons]at hs
  rcases hs with rfl|rfl | hs
  ·simp only[List.length_cons];omega
  ·simp only[List.length_cons];omega
  ·have:=zvf l (i+1) s hs;simp only[List.length_cons];omega
theorem yagm(us:List Se)(m:Nat)(hn:us.length<=64):∀ k (h:k<(jlP us m).length),0<=(jlP us m)[k]/\(jlP us m)[k]<336:=by
 intro k h;have hm:(jlP us m)[k]∈jlP us m:=List.getElem_mem h;generalize (jlP us m)[k]=z at *;simp only[jlP,List.mem_map]at hm;obtain⟨s,hs,rfl⟩:=hm;have:=zvf _ _ s hs
 have hl:((zdw us).take m).length<=64:=by rw[List.length_take,zcf];omega
 omega
theorem yaen{w:World}{b:Nat}{t:TypeId}{x0 x1 x2 x3 x4 x5:Value}(h:w.heap[b]?=some (.cells #[x0,x1,x2,x3,x4,x5] t (0,0)))(j:Nat):w.cell? ⟨b,j,none⟩=[x0,x1,x2,x3,x4,x5][j]?:=by
 unfold World.cell?;simp only[h];simp
theorem yaez(w1:World)(k a x k2 a2 x2:Int):Rd (w1.alloc (.cells #[.I k,.I a,.I x,.I k2,.I a2,.I x2] 82)) 3 (.slice (some ⟨w1.heap.size,0,none⟩) 2 2) 2 (mis [⟨k,a,x⟩,⟨k2,a2,x2⟩]):=by
 refine⟨rfl,_,_,rfl,⟨Nat.le_refl _,fun e=>by cases e⟩,fun _=>⟨w1.heap.size,0,rfl,by simp,fun j hj=>?_⟩⟩;rw[Nat.zero_add,yaen (zah (w:=w1) rfl)];rfl
theorem yauw(w1:World)(x y:Int):RdI (w1.alloc (.cells #[.I x,.I y] 3)) (.slice (some ⟨w1.heap.size,0,none⟩) 2 2) [x,y]:=by
 refine⟨rfl,_,_,rfl,⟨Nat.le_refl _,fun e=>by cases e⟩,fun _=>⟨w1.heap.size,0,rfl,by simp,fun j hj=>?_⟩⟩;obtain⟨e0,e1,_,_⟩:=zac (zah (w:=w1) (o:=.cells #[.I x,.I y] 3) rfl)
 rcases(show j=0\/j=1 by simp at hj;omega)with rfl|rfl
 ·exact e0
 ·exact e1
theorem zql(us:List Se):(zid (zdw us)).length<=2*us.length+4:=by
 have h1:=zbv ((zdw us).map (·.at_));have h2:=zbv ((cnt 0).map (·.at_));simp only[List.length_map,zcf]at h1 h2;simp only[zid,seg,List.length_append,List.length_map,zcf];simp only[cnt,List.length_cons,List.length_nil]at h2 ⊢;omega
theorem zuc(v:Value)(us:List Se)(w:World)(h:RdE w v us)(hn:us.length<=64)(h0:0<us.length)(hz0:∀ k (h:k<us.length),0<=us[k].at_/\us[k].at_<336) :
  zC 81 #[v] w fun e w'=>∃ v',e=.returned v'/\Row w' 82 3 w.heap.size w'.heap.size v' (zds (zdw us)).length (mis (zds (zdw us)))/\zB w w':=by
 have HR:=zaa h;obtain⟨aZ,cZ,rfl,_,hcZ⟩:=h.shape;have HZ:=zaa hcZ;have Z0:=zaa hz0;clear h hcZ hz0
 have START:Hid (PlI w ((w.alloc (.cells #[] 82)).alloc (.cells #[] 3)) (.slice (some ⟨w.heap.size,0,none⟩) 0 0) (.slice (some ⟨w.heap.size+1,0,none⟩) 0 0) [] []):=by
  refine⟨?_,?_,((Below.refl w.heap.size w).alloc zL _).alloc (by simp) _,by simp<;>omega⟩
  ·exact((zne w 82 3).alloc zL _).1
  ·simpa[zdb]using World.ownsRow_lit (base:=w.heap.size) (e:=3) (size:=1) (w.alloc (.cells #[] 82)) #[] 0 (by simp) (by simp) (by simp)
 have g0:((us.length:Int) == 0)=false:=by rw[beq_eq_false_iff_ne];omega
 go_enter Tryz.func81,Tryz.ntmps81;go_wp2
 go_loopw [3,4,5,6] (fun vL vP i _ wr=>∃ m:Nat,m<=us.length/\i=.I m/\Hid (PlI w wr vL vP (jlM us m) (jlP us m))/\w.heap.size<=wr.heap.size) (fun _ _ i _ _=>us.length-(intOf i).toNat)
 case atStart=>exact⟨0,by omega,rfl,by simpa[jlM,jlP,jrn]using START,by simp<;>omega⟩
 case round =>
  obtain⟨m,hm,rfl,J,hz⟩:=hrel
  by_cases hlt:m<us.length
  ·obtain⟨b,o,rfl,hbl,hcell⟩:=HZ.o (by omega);have C0:=(J.o.b.cell (p:=⟨b,o+m*2,none⟩) hbl).trans (hcell m hlt).1;have C1:=(J.o.b.cell (p:=⟨b,o+m*2+1,none⟩) hbl).trans (hcell m hlt).2;have EM:=zaa (yalh us m hlt);have EP:=zaa (yakx us m hlt);have l1:=yajx us m;have l2:=yaii us m
   have hbr:b<wr.heap.size:=by omega
   have DW:=zaa (hcell m hlt);clear hcell
   have m0:(0:Int)<=(m:Int):=by omega
   have m1:(m:Int)<(us.length:Int):=by omega
   generalize us[m].at_=x at *;generalize us[m].val=y at *
   have wp1:IntKind.i64.wrap (9+2*(m:Int)+1)=9+2*(m:Int)+1:=by rw[IntKind.wrap_i64];omega
   go_wp2_with fail
   go_region_held3 (fun w'=>w'.cell? ⟨b,o+m*2,none⟩=some (.I x)/\w'.cell? ⟨b,o+m*2+1,none⟩=some (.I y)) (first | exact⟨C0,C1⟩ | exact⟨s0,s1⟩ | exact⟨r0,r1⟩ | exact⟨t0,t1⟩ | exact⟨q0,q1⟩)
    (first
     | (go_at_call 142;refine(zct _ _ _).mono ?_;rintro e w2 ⟨rfl,hb2⟩;first
       | (have PT:=zaa (P0.o.below hb2);have t0:=(PT.o.b.cell (p:=⟨b,o+m*2,none⟩) hbl).trans DW.o.1;have t1:=(PT.o.b.cell (p:=⟨b,o+m*2+1,none⟩) hbl).trans DW.o.2;have P1:=zaa (PT.o.below (zR.alloc zL (.cells #[.I 1,.I (9+2*(m:Int)),.I x,.I 1,.I (9+2*(m:Int)+1),.I y] 82)));have HRD:=zaa (yaez w2 1 (9+2*(m:Int)) x 1 (9+2*(m:Int)+1) y);have r0:=(P1.o.b.cell (p:=⟨b,o+m*2,none⟩) hbl).trans DW.o.1;have r1:=(P1.o.b.cell (p:=⟨b,o+m*2+1,none⟩) hbl).trans DW.o.2;have hz1:=P1.o.z;clear hb2)
       | (have hb1':=zdr hb2;have q0:=(hb1'.cell (p:=⟨b,o+m*2,none⟩) hbr).trans C0;have q1:=(hb1'.cell (p:=⟨b,o+m*2+1,none⟩) hbr).trans C1;have P0:=zaa (J.o.below hb1');clear hb2 hb1'))
     | (refine zan rfl (.tmp 22) (.tmp 38) 32 rfl w.heap.size 82 (.agg #[.I 0,.I 0,.I 0]) 3 24 Tryz.underlying32 zbx rfl (by decide) _ _ _ rfl P1.o.l _ 2 _ rfl HRD.o (zcv _) (by simp[maxLen];omega) (by omega) hz1 ?_;intro vN wN hownN hgrN;have G:=zaa (P1.o.growL [⟨1,9+2*(m:Int),x⟩,⟨1,9+2*(m:Int)+1,y⟩] hownN hgrN);have s0:=(G.o.b.cell (p:=⟨b,o+m*2,none⟩) hbl).trans DW.o.1;have s1:=(G.o.b.cell (p:=⟨b,o+m*2+1,none⟩) hbl).trans DW.o.2;clear hownN hgrN))
   all_goals
    have hzG:=G.o.z;clear C0 C1 q0 q1 r0 r1 t0 t1 P0 PT P1 HRD J;have P2:=zaa (G.o.below (zR.alloc zL (.cells #[.I (9+2*(m:Int)),.I (9+2*(m:Int)+1)] 3)));have HR2:=zaa (yauw wN (9+2*(m:Int)) (9+2*(m:Int)+1));have hz2:=P2.o.z;clear G;go_wp2_with (at_builtin;refine zae _ rfl (.tmp 40) (.tmp 44) 23 rfl w.heap.size 3 (.I 0) 1 8 Tryz.underlying23 zjs rfl (by decide) _ _ _ rfl P2.o.p _ 2 _ rfl HR2.o (zfo _) (by simp[maxLen];omega) (by omega) hz2 ?_);intro vQ wQ hownQ hgrQ;have G2:=zaa (P2.o.growP [9+2*(m:Int),9+2*(m:Int)+1] hownQ hgrQ);rw[<- EM.o,<- EP.o]at G2;have hz3:=G2.o.z;clear hownQ hgrQ P2 HR2;go_wp2
    go_roundw
    case rel=>exact⟨m+1,by omega,by go_num,G2,hz3⟩
    case measure=>simp[intOf];omega
  ·obtain rfl:m=us.length:=by omega
   have PL:=zaa (yagm us us.length hn);have l1:=yajx us us.length;have l2:=yaii us us.length
   have EE:=zaa (show zds (zdw us)=jlM us us.length++zbf (jlP us us.length)++[⟨1,8,(us.length:Int)⟩]++zbf [8]++zid (zdw us) by
    rw[yaqm,yapw,zds,zcf,if_neg (by omega)];simp[seg,cnt,stM])
   have l3:=zbv (jlP us us.length);have l4:=zbv [8];have l9:=zql us;simp only[List.length_cons,List.length_nil]at l4;generalize jlM us us.length=A at *;generalize jlP us us.length=B at *;go_wp2_with fail;refine(zcu _ B _ (zad J.o.p).rd (by omega) PL.o).mono ?_;rintro e w1 ⟨v1,rfl,hr1,hb1⟩;have P1:=zaa (J.o.below hb1);have R1:=zaa hr1.rd;have hz1:=P1.o.z;clear hr1 hb1 J;go_wp2_with (at_builtin;refine zae _ rfl (.tmp 46) (.tmp 48) 32 rfl w.heap.size 82 (.agg #[.I 0,.I 0,.I 0]) 3 24 Tryz.underlying32 zbx rfl (by decide) _ _ _ rfl P1.o.l _ _ _ rfl R1.o (zcv _) (by simp[maxLen];omega) (by omega) hz1 ?_);intro v2 w2 hown2 hgr2;have P2:=zaa (P1.o.growL _ hown2 hgr2);have hz2:=P2.o.z
   have l5:(A++zbf B).length<=400:=by simp;omega
   generalize A++zbf B=C at *;clear hown2 hgr2 P1 R1;go_wp2_with fail;refine(zct _ _ _).mono ?_;rintro e w3 ⟨rfl,hb3⟩;have P3:=zaa ((P2.o.below hb3).below (zR.alloc zL (.cells #[.I 1,.I 8,.I (us.length:Int)] 82)));have R3:=zaa (zqj w3 1 8 (us.length:Int));have hz3:=P3.o.z;clear hb3 P2;go_wp2_with (at_builtin;refine zae _ rfl (.tmp 50) (.tmp 54) 32 rfl w.heap.size 82 (.agg #[.I 0,.I 0,.I 0]) 3 24 Tryz.underlying32 zbx rfl (by decide) _ _ _ rfl P3.o.l _ 1 _ rfl R3.o (zit _) (by simp[maxLen];omega) (by omega) hz3 ?_);intro v4 w4 hown4 hgr4;have P4:=zaa (P3.o.growL [⟨1,8,(us.length:Int)⟩] (by rw[zlz];exact hown4) hgr4)
   have l6:(C++[(⟨1,8,(us.length:Int)⟩:Mi)]).length<=401:=by simp;omega
   generalize C++[(⟨1,8,(us.length:Int)⟩:Mi)]=D at *;have P5:=zaa (P4.o.below (zR.alloc zL (.cells #[.I 8] 3)));have R5:=zaa (zks w4 8);clear hown4 hgr4 P3 R3 P4;go_wp2_with fail;refine(zcu _ [8] _ R5.o (by simp) (by intro k h;simp at h;subst h;simp)).mono ?_;rintro e w6 ⟨v6,rfl,hr6,hb6⟩;have P6:=zaa (P5.o.below hb6);have R6:=zaa hr6.rd;have hz6:=P6.o.z;clear hr6 hb6 P5 R5;go_wp2_with (at_builtin;refine zae _ rfl (.tmp 56) (.tmp 58) 32 rfl w.heap.size 82 (.agg #[.I 0,.I 0,.I 0]) 3 24 Tryz.underlying32 zbx rfl (by decide) _ _ _ rfl P6.o.l _ _ _ rfl R6.o (zcv _) (by simp[maxLen];omega) (by omega) hz6 ?_);intro v7 w7 hown7 hgr7;have P7:=zaa (P6.o.growL _ hown7 hgr7)
   have l7:(D++zbf [8]).length<=403:=by simp;omega
   generalize D++zbf [8]=F at *;clear hown7 hgr7 P6 R6;go_wp2_with fail;refine(zvx _ us _ (Rd.below HR.o P7.o.b) hn Z0.o).mono ?_;rintro e w8 ⟨v8,rfl,hr8,hb8⟩;have P8:=zaa (P7.o.below hb8);have R8:=zaa hr8.rd;have hz8:=P8.o.z;clear hr8 hb8 P7;go_wp2_with (at_builtin;refine zae _ rfl (.tmp 60) (.tmp 62) 32 rfl w.heap.size 82 (.agg #[.I 0,.I 0,.I 0]) 3 24 Tryz.underlying32 zbx rfl (by decide) _ _ _ rfl P8.o.l _ _ _ rfl R8.o (zcv _) (by simp[maxLen];omega) (by omega) hz8 ?_);intro v9 w9 hown9 hgr9;have P9:=zaa (P8.o.growL _ hown9 hgr9);rw[<- EE.o]at P9;obtain⟨aL,cL,hvL⟩:=RdM.form (zad P9.o.l).rd rfl;subst hvL;clear hown9 hgr9 P8 R8;go_wp2;go_ret;exact⟨_,rfl,zad P9.o.l,P9.o.b⟩
theorem yaby(us:List Se)(h:us.length=0):zds (zdw us)=[]:=by rw[zds,zcf,if_pos h]
theorem zkf(us:List Se):(zds (zdw us)).length<=6*us.length+8:=by
 have h1:=zbv ((jrn 0 (zdw us)).map (·.at_));have h2:=zbv ((cnt (us.length:Int)).map (·.at_));have h3:=zql us;simp only[List.length_map,zcf,zow]at h1;simp only[cnt,List.length_map,List.length_cons,List.length_nil]at h2;rw[zds]
 split
 ·simp
 ·simp only[seg,cnt,List.length_append,List.length_map,zcf,zow,List.length_cons,List.length_nil]at *;omega
theorem zni(v:Value)(us:List Se)(w:World)(h:RdE w v us)(hn:us.length<=64)(hz0:∀ k (h:k<us.length),0<=us[k].at_/\us[k].at_<336) :
  zC 81 #[v] w fun e w'=>∃ v',e=.returned v'/\Row w' 82 3 w.heap.size w'.heap.size v' (zds (zdw us)).length (mis (zds (zdw us)))/\zB w w':=by
 by_cases h0:0<us.length
 ·exact zuc v us w h hn h0 hz0
 ·have RE:=zaa (And.intro (zne w 82 3) ((Below.refl w.heap.size w).alloc zL (.cells #[] 82)));obtain⟨aZ,cZ,rfl,_,hcZ⟩:=h.shape;rw[yaby us (by omega)]
  have e0:us.length=0:=by omega
  clear h hcZ hz0;rw[e0]at *;clear e0;go_enter Tryz.func81,Tryz.ntmps81;go_wp2;go_ret;exact⟨_,rfl,RE.o.1,RE.o.2⟩
end Go.Proofs.YtogcbbkhnpmgeaaGreatDoor
