import Derived.Test.YtfagbapgnocjiaaGreatDoorZBE
import Derived.Laws.EntriesVeiled
set_option maxRecDepth 100000
set_option maxHeartbeats 8000000
namespace Go.Proofs.YtfagbapgnocjiaaGreatDoor
open Go.RowKit
def pgV(ws:List Int)(ps:List St)(es:List Int)(qs:List Se)(e:Int):Int:=if e%4=1 then ldW ws ps (312+e/4).toNat else if e%4=2 then zkx (e/4) (es[(e/4).toNat]?.getD 0) qs else 0
def flI(ns:List Ino)(ds:List Den)(s:ByteArray):Int×Int:=if (lkI ns ds s).2=0 then(if zag ns (lkI ns ds s).1=1 then((lkI ns ds s).1,0) else(0,9)) else(0,(lkI ns ds s).2)
def zdl(ns:List Ino)(z:Int):Int:=(zal ns z.toNat).size
def zms(ns:List Ino)(z:Int)(p:Int):Int:=(zal ns z.toNat).map.getD p.toNat 0
def rpF(ws:List Int)(ps:List St)(es:List Int)(qs:List Se)(ns:List Ino)(i page:Int):Int×Int:=if 0<=page/\page<zdl ns i then(pgV ws ps es qs (zms ns i page),0) else(0,4)
def rpI(ws:List Int)(ps:List St)(es:List Int)(qs:List Se)(ns:List Ino)(ds:List Den)(s:ByteArray)(page:Int):Int×Int:=if (flI ns ds s).2=0 then rpF ws ps es qs ns (flI ns ds s).1 page else(0,(flI ns ds s).2)
def fpI(ns:List Ino):Int:=zbu (fun i=>!zgv (zbm (zaq ns) 1) (i:Int)) 24
def fsI(ns:List Ino):Int:=zbu (fun i=>!zgv (zbm (zaq ns) 2) (i:Int)) 32
def wrS(ns:List Ino)(x:Int):List Mi:=if 0<=fpI ns then⟨1,312+fpI ns,x⟩::zbg [312+fpI ns] else[⟨4,fsI ns,x⟩,⟨5,0,0⟩]
def wrE(ns:List Ino):Int:=if 0<=fpI ns then 4*fpI ns+1 else 4*fsI ns+2
def wrU(i page size e:Int):List Se:=⟨48+12*i+(3+page),e⟩::(if size<=page then[⟨48+12*i+1,page+1⟩] else[])
def wrF(ns:List Ino)(i page x:Int):List Mi×Int:=if (0<=page/\page<8)/\zbz x=true then(if fpI ns<0/\fsI ns<0 then([],7) else(wrS ns x++zdh (zdq (wrU i page (zdl ns i) (wrE ns))),0)) else([],4)
def wrI(ns:List Ino)(ds:List Den)(s:ByteArray)(page x:Int):List Mi×Int:=if (flI ns ds s).2=0 then wrF ns (flI ns ds s).1 page x else([],(flI ns ds s).2)
def cuT(zs:List Int)(i:Int)(n k:Nat):List Se:=((List.range k).filter fun j=>decide (n<=j)&&!(zs.getD j 0 == 0)).map fun(j:Nat)=>⟨48+12*i+(3+(j:Int)),0⟩
def cuU(zs:List Int)(i:Int)(n k:Nat):List Se:=⟨48+12*i+1,(n:Int)⟩::cuT zs i n k
def cuF(ns:List Ino)(i size:Int):List Se×Int:=if 0<=size/\size<=8 then(cuU (zal ns i.toNat).map i size.toNat 8,0) else([],4)
def cuI(ns:List Ino)(ds:List Den)(s:ByteArray)(size:Int):List Se×Int:=if (flI ns ds s).2=0 then cuF ns (flI ns ds s).1 size else([],(flI ns ds s).2)
theorem yaqe{zs:List Int}{i:Int}{n k:Nat}(h:n<=k)(e:¬ zs.getD k 0=0):cuT zs i n (k+1)=cuT zs i n k++[⟨48+12*i+(3+(k:Int)),0⟩]:=by
 unfold cuT;rw[List.range_succ,List.filter_append,List.map_append]
 congr 1
 rw[List.filter_cons_of_pos (by rw[decide_eq_true h];simpa using e)];rfl
theorem yark{zs:List Int}{i:Int}{n k:Nat}(e:zs.getD k 0=0):cuT zs i n (k+1)=cuT zs i n k:=by
 unfold cuT;rw[List.range_succ,List.filter_append,List.map_append,List.filter_cons_of_neg (by rw[e];simp)];simp
theorem yadc(zs:List Int)(i:Int)(n:Nat):cuT zs i n n=[]:=by
 unfold cuT;rw[List.filter_eq_nil_iff.2 (fun j hj=>by have:=List.mem_range.1 hj;simp;omega)];rfl
theorem zyh(zs:List Int)(i:Int)(n k:Nat):(cuT zs i n k).length<=k:=by
 unfold cuT;rw[List.length_map];refine Nat.le_trans (List.length_filter_le _ _) ?_;rw[List.length_range];exact Nat.le_refl _
theorem yard{zs:List Int}{i n k:Nat}(hi:i<16)(hk:k<=8):UpIn (cuT zs (i:Int) n k):=fun u hu=>by
 unfold cuT at hu;obtain⟨j,hm,rfl⟩:=List.mem_map.1 hu;have:=List.mem_range.1 (List.mem_filter.1 hm).1;exact⟨by show 48<=48+12*(i:Int)+(3+(j:Int));omega,by show 48+12*(i:Int)+(3+(j:Int))<312;omega⟩
theorem zgp{ns:List Ino}{ds:List Den}{s:ByteArray}(I:Img ns ds)(h:(flI ns ds s).2=0):∃ i:Nat,i<16/\(flI ns ds s).1=(i:Int)/\(zal ns i).kind=1:=by
 unfold flI at h ⊢
 by_cases c:(lkI ns ds s).2=0
 ·rw[if_pos c]at h ⊢
  by_cases d:zag ns (lkI ns ds s).1=1
  ·rw[if_pos d];obtain⟨i,e,hi,_,k⟩:=zlg I c (by rw[d];omega);exact⟨i,hi,e,k⟩
  ·rw[if_neg d]at h;simp at h
 ·rw[if_neg c]at h;exact absurd h c
def zql:Prop:=∀ (v:Value) (ts:List Den) (lo hi:Nat) (w:World),Row w 52 3 lo hi v ts.length (dens ts)->hi<=w.heap.size->ts.length<=24 ->
 zC 18 #[v,.func (.func 19) #[] #[]] w fun e w'=>e=.returned (.tuple #[])/\∃ rs:List Den,rs.Perm ts/\(rs.Pairwise fun a b=>a.name.toList<=b.name.toList)/\Row w' 52 3 lo hi v rs.length (dens rs)/\Outside lo hi w w'
theorem zos(SORT:zql)(v:Value)(ws:List Ino)(ps:List Den)(w:World)(h:RdIm w v ws ps)(hw:ws.length<=1048576)(hp:ps.length<=1048576)(hT:TS w)(hE:ED w)(hF:FD w)(hr:∀ k (h:k<ws.length),ws[k].R)(hs:∀ k (h:k<ps.length),ps[k].name.size<=maxLen) :
  zC 5 #[v] w fun e w'=>∃ v',e=.returned (.tuple #[v',.I (poC ws ps)])/\Row w' 9 1 w.heap.size w'.heap.size v' (poL ws ps).length (zcs (poL ws ps))/\zB w w':=by
 have HRD:=zaa h;have LI:=zaa (fun w1 (hb:zB w w1) h=>zdo v ws ps w1 h hw hp (hT.below hb) (hE.below hb) (hF.below hb) hr hs);have FF:=zaa hF;obtain⟨vW,vP,rfl,h1,h2⟩:=h;obtain⟨aW,cW,rfl,_,_⟩:=h1.shape;have HD:=zaa h2;obtain⟨aP,cP,rfl,_,_⟩:=h2.shape;clear h1 h2 hr hs hT hE hF
 obtain⟨W0,hW0⟩:=zE (w.alloc (.cells #[.slice aW ws.length cW,.slice aP ps.length cP] 26))
 have CA:Hid (∀ w',zB W0 w'->w'.cell? ⟨w.heap.size,0,none⟩=some (.slice aW ws.length cW)/\w'.cell? ⟨w.heap.size,1,none⟩=some (.slice aP ps.length cP)):=fun w' hb=>by
  have:w'.heap[w.heap.size]?=some (.cells #[.slice aW ws.length cW,.slice aP ps.length cP] 26 (0,0)):=(hb.block _ (by rw[hW0];simp)).trans (by rw[hW0];exact zai rfl);exact⟨(zad this).1,(zad this).2.1⟩
 have BW:Hid (zB w W0):=by rw[hW0];exact zR.alloc zL _
 have hz0:w.heap.size<=W0.heap.size:=BW.o.size;obtain⟨x0,x1⟩:=CA.o _ zR
 cases c1:zbo ws ps with
 | false =>
  rw[c1]at LI;rw[show poL ws ps=[] by unfold poL;rw[c1];rfl,show poC ws ps=1 by unfold poC;rw[c1];rfl];clear c1;go_enter Tryz.func5,Tryz.ntmps5;go_wp2_with fail;rw[<- hW0];refine(LI.o _ BW.o (HRD.o.below BW.o)).mono ?_;rintro e w1 ⟨rfl,hb1⟩;have B1:=zaa (zab BW.o hb1 BW.o.size);clear hb1 x0 x1;go_wp2;go_ret2;exact⟨_,rfl,Row.nil _ _ _ _ _,B1.o⟩
 | true =>
  have OK:=zaa c1;have L24:=zaa (zao c1).2.1;rw[c1]at LI;rw[show poL ws ps=zrg ws ps 16 0 ⟨#[]⟩ by unfold poL;rw[c1];rfl,show poC ws ps=0 by unfold poC;rw[c1];rfl];clear c1;go_enter Tryz.func5,Tryz.ntmps5;go_wp2_with fail;rw[<- hW0];clear hW0;refine(LI.o _ BW.o (HRD.o.below BW.o)).mono ?_;rintro e w1 ⟨rfl,hb1⟩;have B1:=zaa (zab BW.o hb1 BW.o.size);have B01:=zaa hb1;clear x0 x1;obtain⟨x0,x1⟩:=CA.o _ hb1;clear hb1;go_wp2_with fail;refine(zem _ ps w1 (Rd.below HD.o B1.o) (by have:=L24.o;omega) (FF.o.below B1.o)).mono ?_;rintro e w2 ⟨v2,rfl,hr2,hb2⟩;have B2:=zaa (zab B1.o hb2 B1.o.size);have hz1:w.heap.size<=w1.heap.size:=B1.o.size;have hz2:w1.heap.size<=w2.heap.size:=hb2.size
  have tl:(zan ps).length<=24:=by rw[<- L24.o];exact List.length_filter_le _ _
  have R2:=zaa hr2;obtain⟨_,a2,c2,rfl,_⟩:=hr2.rd
  obtain⟨W3,hW3⟩:=zE (w2.alloc (.cells #[.slice a2 (zan ps).length c2] 24))
  have X3:Hid (W3.heap[w2.heap.size]?=some (.cells #[.slice a2 (zan ps).length c2] 24 (0,0))):=by rw[hW3];exact zai rfl
  have BX:Hid (zB w2 W3):=by rw[hW3];exact zR.alloc zL _
  have R3:=zaa (R2.o.below BX.o zL);have B3:=zaa (zab B2.o BX.o B2.o.size);have hz3:w2.heap.size<W3.heap.size:=(Array.getElem?_eq_some_iff.1 X3.o).1;have s0:=(zfb X3.o).1;rw[hW3]at s0;clear x0 x1 hr2 hb2 R2;go_wp2_with fail;rw[<- hW3];clear hW3 s0;refine(SORT _ (zan ps) _ _ W3 R3.o (by omega) tl).mono ?_;rintro e w4 ⟨rfl,rs,hpm,hsr,hr4,ho4⟩;have hz4:W3.heap.size<=w4.heap.size:=ho4.size;have B4:=zaa (B3.o.trans (ho4.below (B:=w.heap.size) (by omega) (by omega)));have X4:=zaa ((ho4.block _ (by omega) (by omega)).trans X3.o);have rl:=hpm.length_eq;rw[<- rl]at X4
  have D4:Hid (RdD w4 (.slice a2 rs.length c2) rs):=by
   have:=hr4.rd;rw[<- rl]at this;exact this
  have PS:=zaa (zqg OK.o hpm hsr 16 0 ⟨#[]⟩)
  obtain⟨W5,hW5⟩:=zE ((w4.alloc (.cells #[.N] 28)).alloc (.cells #[wkF w2.heap.size w4.heap.size (w4.heap.size+1)] 55))
  have I0:Hid (WkI 55 w4 W5 w2.heap.size w4.heap.size (w4.heap.size+1) (.N) []):=by
   rw[hW5];refine⟨zak (zai rfl),?_,⟨World.ownsRow_nil _ _ _ _,zau (zau zR _) _⟩,Nat.le_refl _,by omega⟩;have:=zai (w:=w4.alloc (.cells #[.N] 28)) (o:=.cells #[wkF w2.heap.size w4.heap.size (w4.heap.size+1)] 55) rfl;rw[World.size_alloc]at this;exact this
  have LW:=zaa (yakb OK.o hpm 55 (by decide) w4 a2 c2 w2.heap.size w4.heap.size (w4.heap.size+1) (fun w' hb=>(zfb ((hb.block _ (by omega)).trans X4.o)).1) D4.o 16 0 ⟨#[]⟩ W5 _ [] (Or.inl ⟨0,rfl,rfl,by omega,(zao OK.o).2.2.1,by decide,Nat.zero_le _⟩) I0.o);have f0:=(zfb I0.o.f).1;rw[hW5]at f0;unfold wkF at hW5 f0;clear hr4 ho4 hpm hsr D4 X3 R3 rl;go_wp2_with fail;rw[<- hW5];clear hW5 f0;refine LW.o.mono ?_;rintro e w6 ⟨rfl,v6,h6⟩;rw[List.nil_append,PS.o]at h6;have I6:=zaa h6;obtain⟨_,a6,c6,rfl,_⟩:=(zac h6.i.l).rd;clear h6 LW I0;have t0:=(zfb I6.o.s).1;have B6:=zaa (zab B4.o I6.o.i.b B4.o.size);have hz6:w.heap.size<=w4.heap.size:=B4.o.size;go_wp2;go_ret2;exact⟨_,rfl,(zac I6.o.i.l).wide hz6 zL,B6.o⟩
def zho(s:ByteArray):ByteArray:=mkB (Lib.trimPrefix s.data.toList [47])
def zqi(s:ByteArray):Bool:=Lib.hasPrefix s.data.toList [47]
theorem yamg{s:ByteArray}(h:zqi s=false):spN s=false:=by
 unfold zqi Lib.hasPrefix at h;unfold spN
 cases hl:s.data.toList with
 | nil=>rw[yalo hl];rfl
 | cons c l =>
  have hc:¬ c=47:=fun e=>by subst e;rw[hl]at h;simp[List.isPrefixOf]at h
  obtain⟨x,r,e,hx⟩:=yads hl hc;rw[e]
  have:x.toList.isEmpty=false:=by
   rw[Lib.toList_data];rw[Lib.size_eq]at hx
   cases h:x.data.toList with
   | nil=>rw[h]at hx;exact absurd rfl hx
   | cons _ _=>rfl
  show(_&&(x.toList.isEmpty&&_))=false
  rw[this];simp
theorem yadu{s:ByteArray}(h:zqi s=true):spN s=(decide ((pcs (zho s)).length<=6)&&(pcs (zho s)).all nmB)/\(pcs s).drop 1=pcs (zho s):=by
 unfold zqi Lib.hasPrefix at h
 cases hl:s.data.toList with
 | nil=>rw[hl]at h;simp[List.isPrefixOf]at h
 | cons c l =>
  have hc:c=47:=by rw[hl]at h;simp[List.isPrefixOf]at h;exact h.symm
  subst hc
  have hr:zho s=mkB l:=by unfold zho Lib.trimPrefix Lib.hasPrefix;rw[hl];simp[List.isPrefixOf]
  have hp:=yahu hl;have p1:=yajk (zho s);unfold spN;rw[hp,hr];rw[hr]at p1;refine⟨?_,rfl⟩;have e1:(mkB []::pcs (mkB l)).length=(pcs (mkB l)).length+1:=rfl;rw[e1]
  have e2:decide (2<=(pcs (mkB l)).length+1/\(pcs (mkB l)).length+1<=7)=decide ((pcs (mkB l)).length<=6):=by
   by_cases q:(pcs (mkB l)).length<=6
   ·rw[decide_eq_true q,decide_eq_true (by omega)]
   ·rw[decide_eq_false q,decide_eq_false (by omega)]
  rw[e2]
  have e3:((mkB []::pcs (mkB l)).getD 0 ⟨#[]⟩).toList.isEmpty=true:=by
   show(mkB []).toList.isEmpty=true
   rw[Lib.toList_data,zhl];rfl
  rw[e3];rfl
theorem yagd(s:ByteArray):(zho s).size<=s.size:=by
 unfold zho;rw[Lib.size_eq,zhl,Lib.size_eq];unfold Lib.trimPrefix
 split
 ·rw[List.length_drop];omega
 ·exact Nat.le_refl _
theorem zse(v:Value)(ss:List ByteArray)(w:World)(h:RdT w v ss)(hn:ss.length<=1048576)(hs:∀ k (h:k<ss.length),ss[k].size<=maxLen) :
  zC 28 #[v,.func (.func 29) #[] #[]] w fun e w'=>e=.returned (.bool (ss.all nmB))/\zB w w':=by
 obtain⟨aP,cP,rfl,_,hcP⟩:=h.shape;have HP:=zaa hcP;have HS:=zaa hs
 have SF:Hid (∀ j (h:j<ss.length),nmB ss[j]=false->ss.all nmB=false):=fun j h q=>by
  rw[List.all_eq_false];exact⟨ss[j],List.getElem_mem _,by rw[q];simp⟩
 have SA:Hid ((∀ j (h:j<ss.length),nmB ss[j]=true)->ss.all nmB=true):=fun h=>by
  rw[List.all_eq_true];intro x hx;obtain⟨j,hj,rfl⟩:=List.getElem_of_mem hx;exact h j hj
 clear h hcP hs;go_enter Tryz.func28,Tryz.ntmps28;go_wp2
 go_loopw [6,9] (fun _ i wr=>∃ k:Nat,k<=ss.length/\i=.I k/\Hid (zB w wr/\∀ j (h:j<ss.length),j<k->nmB ss[j]=true)) (fun _ i _=>ss.length-(intOf i).toNat)
 case atStart=>exact⟨0,by omega,rfl,zR,fun j h a=>absurd a (by omega)⟩
 case round =>
  obtain⟨k,hk,rfl,H⟩:=hrel;have H1:=zaa H.o.1;have hz:w.heap.size<=wr.heap.size:=H.o.1.size
  by_cases hlt:k<ss.length
  ·obtain⟨b,o,rfl,hbl,hcell⟩:=HP.o (by omega);have d0:=(H1.o.cell (p:=⟨b,o+k,none⟩) hbl).trans (hcell k hlt)
   have k0:(0:Int)<=(k:Int):=by omega
   have k1:(k:Int)<(ss.length:Int):=by omega
   have LI:=zaa (fun w1=>zha ss[k] w1 (HS.o k hlt));have H2:Hid (∀ j (h:j<ss.length),j<k->nmB ss[j]=true):=H.o.2;clear hcell H
   cases q:nmB ss[k] with
   | true =>
    have H':Hid (∀ j (h:j<ss.length),j<k+1->nmB ss[j]=true):=fun j h a=>by
     by_cases e:j=k
     ·subst e;exact q
     ·exact H2.o j h (by omega)
    rw[q]at LI;clear q H2;generalize ss[k]=x at d0 LI;go_wp2_with fail;refine(LI.o _).mono ?_;rintro e w1 ⟨rfl,hb1⟩;have B3:=zaa (zab H1.o hb1 H1.o.size);clear hb1 d0;go_wp2
    go_roundw
    case rel=>exact⟨k+1,by omega,by go_num,B3.o,H'.o⟩
    case measure=>simp[intOf];omega
   | false =>
    have E:=zaa (SF.o k hlt q);rw[q]at LI;clear q H2;generalize ss[k]=x at d0 LI;go_wp2_with fail;refine(LI.o _).mono ?_;rintro e w1 ⟨rfl,hb1⟩;have B3:=zaa (zab H1.o hb1 H1.o.size);clear hb1 d0;go_wp2;go_ret;exact⟨zah E.o.symm,B3.o⟩
  ·have E:=zaa (SA.o (fun j h=>H.o.2 j h (by omega)));clear H;go_wp2;go_ret;exact⟨zah E.o.symm,H1.o⟩
theorem yajw(w:World)(P:List ByteArray)(h:P.length<=1048576):Row (w.alloc (.cells (zcs P).toArray 9)) 9 1 w.heap.size (w.alloc (.cells (zcs P).toArray 9)).heap.size (.slice (some ⟨w.heap.size,0,none⟩) P.length P.length) P.length (zcs P):=by
 have:=World.ownsRow_lit (e:=9) (size:=1) (base:=w.heap.size) w (zcs P).toArray P.length zL (by simp[maxLen];omega) (by simp[zcs]);exact zac this
theorem zec(s:ByteArray)(w:World) :
  zC 10 #[.string s] w fun e w'=>∃ v',e=.returned (.tuple #[v',.I (spC s)])/\Row w' 9 1 w.heap.size w'.heap.size v' (spR s).length (zcs (spR s))/\zB w w':=by
 by_cases c1:65536<s.size
 ·obtain⟨E1,E2⟩:=yaid c1;rw[E1,E2]
  have c2:(s.size:Int)>65536:=by omega
  clear c1 E1 E2;go_enter Tryz.func10,Tryz.ntmps10;go_wp2;go_ret2;exact⟨_,rfl,Row.nil _ _ _ _ _,zR⟩
 have c2:¬ (s.size:Int)>65536:=by omega
 obtain⟨X1,X2⟩:=zsl c1
 cases c3:zhv s with
 | true =>
  obtain⟨E1,E2⟩:=zqj c3;obtain⟨E3,E4⟩:=X1 E1;rw[E3,E4,E2];have c4:(s.toList == [47])=true:=c3;clear c1 c3 E1 E2 E3 E4 X1 X2;go_enter Tryz.func10,Tryz.ntmps10;go_wp2;go_ret2;exact⟨_,rfl,Row.nil _ _ _ _ _,zR⟩
 | false =>
 have c4:(s.toList == [47])=false:=c3
 have NO:Hid (spN s=false->spC s=12/\spR s=[]):=fun h=>X2 (yarl c3 h).1
 have YES:Hid (spN s=true->spC s=0/\spR s=(pcs s).drop 1):=fun h=>by
  obtain⟨a,b⟩:=yaho c3 h;obtain⟨c,d⟩:=X1 a;exact⟨c,d.trans b⟩
 have LP:Hid (∀ w1:World,zC 26 #[.string s,.string ⟨#[47]⟩] w1 fun e w'=>e=.returned (.tuple #[.string (zho s),.bool (zqi s)])/\w'=w1):=fun w1=>zrk s ⟨#[47]⟩ w1
 have RS:=yagd s;have LS:=zaa (fun w1=>zya (zho s) w1 (by omega));have PL:=yaij (zho s);have RW:=zaa (fun w1=>yajw w1 (pcs (zho s)) (by omega));have LE:=zaa (fun v w1 h=>zse v (pcs (zho s)) w1 h (by omega) (fun k hk=>by have:=zzv (zho s) k hk;unfold maxLen;omega));have AN:=zaa (fun h=>yamg (s:=s) h);have AY:=zaa (fun h=>yadu (s:=s) h);have BE:=zaa (fun w1:World=>(Below.refl w1.heap.size w1).alloc zL (.cells (zcs (pcs (zho s))).toArray 9));clear c1 c3 X1 X2;generalize spC s=sc at *;generalize spR s=sr at *;generalize spN s=sn at *;generalize (pcs s).drop 1=P1 at *;generalize hRS:zho s=R at *;generalize zqi s=ah at *;generalize pcs R=P at *;clear hRS
 cases ah with
 | false =>
  obtain⟨e1,e2⟩:=NO.o (AN.o rfl);subst e1 e2;clear NO YES AN AY LE RW;go_enter Tryz.func10,Tryz.ntmps10;go_wp2_with fail;refine(LP.o _).mono ?_;rintro e w1 ⟨rfl,hw1⟩;subst w1;go_wp2_with fail;refine(LS.o _).mono ?_;rintro e w1 ⟨rfl,hw1⟩;have B1:=zaa (BE.o w);rw[<- hw1]at B1;clear hw1;go_wp2;go_ret2;exact⟨_,rfl,Row.nil _ _ _ _ _,B1.o⟩
 | true =>
 obtain⟨a1,a2⟩:=AY.o rfl;have A1:=zaa a1;rw[a2]at YES;clear a2 AY
 by_cases n1:P.length<=6
 case neg =>
  obtain⟨e1,e2⟩:=NO.o (by rw[A1.o,decide_eq_false n1];rfl)
  have n2:(P.length:Int)>6:=by omega
  subst e1 e2;clear NO YES AN LE RW A1 a1;go_enter Tryz.func10,Tryz.ntmps10;go_wp2_with fail;refine(LP.o _).mono ?_;rintro e w1 ⟨rfl,hw1⟩;subst w1;go_wp2_with fail;refine(LS.o _).mono ?_;rintro e w1 ⟨rfl,hw1⟩;have B1:=zaa (BE.o w);rw[<- hw1]at B1;clear hw1;go_wp2;go_ret2;exact⟨_,rfl,Row.nil _ _ _ _ _,B1.o⟩
 have n2:¬ (P.length:Int)>6:=by omega
 have A2:Hid (sn=P.all nmB):=by unfold Hid;rw[A1.o,decide_eq_true n1];rfl
 clear A1 a1
 cases c5:P.all nmB with
 | false =>
  obtain⟨e1,e2⟩:=NO.o (by rw[A2.o,c5]);rw[c5]at LE;subst e1 e2;clear NO YES AN A2 c5;go_enter Tryz.func10,Tryz.ntmps10;go_wp2_with fail;refine(LP.o _).mono ?_;rintro e w1 ⟨rfl,hw1⟩;subst w1;go_wp2_with fail;refine(LS.o _).mono ?_;rintro e w1 ⟨rfl,hw1⟩;have B1:=zaa (BE.o w);have R1:=zaa (RW.o w);rw[<- hw1]at B1 R1;clear hw1 RW BE;go_wp2_with fail;refine(LE.o _ _ R1.o.rd).mono ?_;rintro e w2 ⟨rfl,hb2⟩;have B2:=zaa (zab B1.o hb2 B1.o.size);clear hb2;go_wp2;go_ret2;exact⟨_,rfl,Row.nil _ _ _ _ _,B2.o⟩
 | true =>
  obtain⟨e1,e2⟩:=YES.o (by rw[A2.o,c5]);rw[c5]at LE;subst e1 e2;clear NO YES AN A2 c5;go_enter Tryz.func10,Tryz.ntmps10;go_wp2_with fail;refine(LP.o _).mono ?_;rintro e w1 ⟨rfl,hw1⟩;subst w1;go_wp2_with fail;refine(LS.o _).mono ?_;rintro e w1 ⟨rfl,hw1⟩;have B1:=zaa (BE.o w);have R1:=zaa (RW.o w);rw[<- hw1]at B1 R1;clear hw1 RW BE;go_wp2_with fail;refine(LE.o _ _ R1.o.rd).mono ?_;rintro e w2 ⟨rfl,hb2⟩;have B2:=zaa (zab B1.o hb2 B1.o.size);have R2:=zaa ((R1.o.below hb2 zL).wide zL hb2.size);clear hb2;go_wp2;go_ret2;exact⟨_,rfl,R2.o,B2.o⟩
theorem zor(s:ByteArray)(w:World) :
  zC 9 #[.string s] w fun e w'=>e=.returned (.bool (spC s == 0))/\zB w w':=by
 have LS:=zaa (fun w1=>zec s w1);generalize spC s=sc at *;go_enter Tryz.func9,Tryz.ntmps9;go_wp2_with fail;refine(LS.o _).mono ?_;rintro e w1 ⟨v1,rfl,hr1,hb1⟩;have B1:=zaa hb1;clear hr1 hb1;go_wp2;go_ret;exact⟨rfl,B1.o⟩
end Go.Proofs.YtfagbapgnocjiaaGreatDoor
