import Derived.Test.YtogcbbkhnpmgeaaGreatDoorZBJ
import Derived.Test.YtogcbbkhnpmgeaaGreatDoorZAX
import Derived.Shelf.Sort.Plain
import Derived.Shelf.Slices.In.SortNone
set_option maxRecDepth 100000
set_option maxHeartbeats 16000000
namespace Go.Proofs.YtogcbbkhnpmgeaaGreatDoor
open Go.RowKit Go.Maps
theorem ybbe{ws:List Ino}{ps:List Den}{s:ByteArray}:rmR ws ps s=if (paR ws ps s).2.2=0 then rmN ws ps (paR ws ps s).1 (paR ws ps s).2.1 else([],(paR ws ps s).2.2):=by
 unfold rmR paR
 by_cases c:65536<s.size
 ·rw[if_pos c,if_pos c];rfl
 ·rw[if_neg c,if_neg c]
  by_cases c1:zbg ws ps=true
  ·rw[if_pos c1,if_pos c1];rfl
  ·rw[if_neg c1,if_neg c1];rfl
theorem zmy(v:Value)(ws:List Ino)(ps:List Den)(s:ByteArray)(w:World)(h:RdIm w v ws ps)(hw:ws.length<=1048576)(hp:ps.length<=1048576)(hT:TS w)(hE:ED w)(hF:FD w)(hr:∀ k (h:k<ws.length),ws[k].R)(hs:∀ k (h:k<ps.length),ps[k].name.size<=maxLen) :
  zC 132 #[v,.string s] w fun e w'=>zgh w w' e (rmR ws ps s):=by
 have LN:=zaa (fun b D w1 (hb:zB w w1) hm=>zsh v ws ps s b D w1 (h.below hb) hw hp (hT.below hb) (hE.below hb) (hF.below hb) hr hs hm);have LT:=zaa (fun d b D w1 (hb:zB w w1) hi hm=>znk v ws ps d b D w1 (h.below hb) hi hm (hF.below hb));have LD:=zaa (fun k x w1 (hb:zB w w1) hs=>zcr k x w1 (hF.below hb) hs);have LU:=zaa (fun i x w1 (hb:zB w w1) hi hl=>znh i x w1 hi hl (hT.below hb) (hE.below hb));have FDB:=zaa (fun w1 (hb:zB w w1)=>(hF.below hb).cells);have EL:=zaa (@ybbe ws ps s);have EN:=zaa (fun d nm=>show rmN ws ps d nm=match zbi ps d nm with | none=>([],5) | some k=>rmC ws ps k from rfl);have EC:=zaa (fun k=>show rmC ws ps k=if zaj ws (zao ps k)=2/\¬ zbm ps (zao ps k)=[] then([],11) else(rmU (k:Int) (zao ps k) (zdr ws (zao ps k)),0)from rfl);have ER:=zaa (show erR ws ps s=if (paR ws ps s).2.2=0 then erN ps (paR ws ps s).1 (paR ws ps s).2.1 else(0,(paR ws ps s).2.2)from rfl);have EM:=zaa (fun d nm=>show erN ps d nm=match zbi ps d nm with | none=>(0,5) | some k=>((k:Int),0)from rfl);have PR:=zaa (@yakz ws ps s);have CR:=zaa (fun hi d nm k e=>zef (ws:=ws) (ps:=ps) hi (d:=d) (nm:=nm) (k:=k) e);have LR:=zaa (fun hi i h0=>zjy (ws:=ws) (ps:=ps) hi (i:=i) h0);have MZ:=zaa (fun hi d=>yayd (ws:=ws) (ps:=ps) hi d);have FE:=zaa (fun hi d k=>zut (ws:=ws) (ps:=ps) hi (d:=d) k);have PA:=zaa (fun hi=>zas (ws:=ws) (ps:=ps) hi);obtain⟨vW,vP,rfl,h1,h2⟩:=h;obtain⟨aW,cW,rfl,_,hcW⟩:=h1.shape;obtain⟨aP,cP,rfl,_,hcP⟩:=h2.shape;have HW:=zaa hcW;have HP:=zaa hcP;clear h1 h2 hr hs hT hE hF hcW hcP
 have CA:Hid (∀ w',Below (w.alloc (.cells #[.slice aW ws.length cW,.slice aP ps.length cP] 51)).heap.size (w.alloc (.cells #[.slice aW ws.length cW,.slice aP ps.length cP] 51)) w'->w'.cell? ⟨w.heap.size,0,none⟩=some (.slice aW ws.length cW)/\w'.cell? ⟨w.heap.size,1,none⟩=some (.slice aP ps.length cP)):=fun w' hb=>by
  have:w'.heap[w.heap.size]?=some (.cells #[.slice aW ws.length cW,.slice aP ps.length cP] 51 (0,0)):=(hb.block _ (by simp)).trans (zaf rfl);exact⟨(zac this).1,(zac this).2.1⟩
 have BW:Hid (zB w (w.alloc (.cells #[.slice aW ws.length cW,.slice aP ps.length cP] 51))):=zR.alloc zL _;generalize rmR ws ps s=res at *;generalize erR ws ps s=er at *;generalize hpr:paR ws ps s=pr at *;clear hpr
 obtain⟨W,hW⟩:=zE (w.alloc (.cells #[.slice aW ws.length cW,.slice aP ps.length cP] 51))
 have M1:Hid (Mp ((w.alloc (.cells #[.slice aW ws.length cW,.slice aP ps.length cP] 51)).alloc (.map #[] 0)) (w.heap.size+1) (.map [])):=by
  have:=zvi (w:=w.alloc (.cells #[.slice aW ws.length cW,.slice aP ps.length cP] 51));rw[World.size_alloc]at this;exact this
 have A1:Hid (zB W ((w.alloc (.cells #[.slice aW ws.length cW,.slice aP ps.length cP] 51)).alloc (.map #[] 0))):=by rw[<- hW];exact zvy zR _
 rw[<- hW]at CA BW
 have hz:w.heap.size<W.heap.size:=by rw[hW];simp
 have hWs:W.heap.size<=w.heap.size+1:=by rw[hW];simp
 have B1:=zaa (zab BW.o A1.o (by omega));obtain⟨x0,x1⟩:=CA.o _ A1.o;obtain⟨pd,pn,pc⟩:=pr;obtain⟨ek,ec⟩:=er;simp only at EL ER PR LN;have hmm:=@run_makeMap Tryz.prog;go_enter Tryz.func132,Tryz.ntmps132;go_wp2_with fail;refine(LN.o _ _ _ B1.o M1.o).mono ?_;rintro e w2 ⟨rfl,⟨D2,hm2⟩,hg2⟩;have A2:=zaa (zfb A1.o hg2 hWs);have B2:=zaa (zab BW.o A2.o (by omega));have M2:=zaa hm2;clear x0 x1 hg2 LN M1 A1 B1 hmm hm2 hW
 by_cases c:pc=0
 case neg =>
  rw[if_neg c]at EL ER;obtain rfl:=EL.o;have e2:=ER.o;simp only[Prod.mk.injEq]at e2;obtain⟨-,rfl⟩:=e2
  have q:(ec != 0)=true:=by rw[bne_iff_ne];exact c
  clear c EL ER;go_wp2;go_ret2;exact zcu B2.o
 rw[if_pos c]at EL ER;subst c;obtain⟨hi,-⟩:=PR.o rfl;rw[EM.o]at ER;rw[EN.o]at EL;clear PR EM EN
 cases he:zbi ps pd pn with
 | none =>
  rw[he]at EL ER;obtain rfl:=EL.o;have e2:=ER.o;simp only[Prod.mk.injEq]at e2;obtain⟨-,rfl⟩:=e2;clear EL ER;go_wp2;go_ret2;exact zcu B2.o
 | some k =>
 rw[he]at EL ER;have e2:=ER.o;simp only[Prod.mk.injEq]at e2;obtain⟨rfl,rfl⟩:=e2;have EL2:Hid (res=rmC ws ps k):=EL.o;rw[EC.o]at EL2;obtain⟨k1,k2⟩:=CR.o hi _ _ _ he;have lr:=LR.o hi _ k2;obtain⟨l16,l24,_⟩:=PA.o hi;obtain⟨bW,oW,rfl,hblW,hcellW⟩:=HW.o (by omega);obtain⟨bP,oP,rfl,hblP,hcellP⟩:=HP.o (by omega);have HPk:=zaa (fun w' (hb:zB w w')=>((hb.cell (p:=⟨bP,oP+k*3+2,none⟩) hblP).trans (hcellP k k1).2.2).trans (by rw[<- zbn k1]));have LTk:=zaa (fun b D w1 hb hm=>LT.o (zao ps k) b D w1 hb hi hm);obtain⟨ma,mb⟩:=MZ.o hi (zao ps k);have MA:=zaa ma;have MB:=zaa mb;have FEk:=zaa (FE.o hi (zao ps k))
 obtain⟨i,hi'⟩:∃ i:Nat,zao ps k=(i:Int):=⟨(zao ps k).toNat,by omega⟩
 rw[hi']at EL2 lr HPk LTk MA MB FEk
 have i1:i<ws.length:=by omega
 have CI:=zaa (hcellW i i1);have lx:Hid (ws[i].links=zdr ws (i:Int)):=(zgi i1).symm
 have k24:k<24:=by omega
 have i16:i<16:=by omega
 have kl:(k:Int)<(ps.length:Int):=by omega
 have il:(i:Int)<(ws.length:Int):=by omega
 have k0:(0:Int)<=(k:Int):=by omega
 have i0:(0:Int)<=(i:Int):=by omega
 clear EL EC CR LR ER he HP HW LT hi' k2 hblP l16 l24 hcellW hcellP MZ FE PA ma mb hi;generalize ws[i]=xi at *;generalize zaj ws (i:Int)=kd at *;generalize zdr ws (i:Int)=lk at *;generalize zbm ps (i:Int)=nms at *;generalize mpD ps (i:Int) ps.length=D3 at *;obtain⟨x0,x1⟩:=CA.o _ A2.o;have y0:=HPk.o _ B2.o;go_wp2_with fail;refine(LTk.o _ _ _ B2.o M2.o).mono ?_;rintro e w3 ⟨rfl,hm3,hg3⟩;have A3:=zaa (zfb A2.o hg3 hWs);have B3:=zaa (zab BW.o A3.o (by omega));have M3:=zaa hm3;clear x0 x1 y0 hg3 hm3 LTk A2 B2 M2 HPk
 by_cases q:nms=[]
 case neg =>
  have q2:kd=2:=Classical.byContradiction fun a=>q (FEk.o a)
  rw[if_pos ⟨q2,q⟩]at EL2;obtain rfl:=EL2.o;have sz:=MB.o q;clear EL2 q q2 MA MB FEk
  have sz2:(Maps.size D3:Int)>0:=by omega
  go_wp2_with (at_len;refine wpList_len_own _ rfl _ 210 rfl 9 3 mapU _ (w.heap.size+1) 4096 D3 rfl M3.o ?_);go_wp2;go_ret2;exact zcu B3.o
 have EL3:Hid (res=(rmU (k:Int) (i:Int) lk,0)):=EL2.o.trans (if_neg (by rintro⟨_,b⟩;exact b q));have sz:=MA.o q;clear EL2 q MA MB FEk
 have sz2:(Maps.size D3:Int)=0:=by omega
 have EU:=zaa (show rmU (k:Int) (i:Int) lk=enL (k:Int) freeD++(if 1<lk then[⟨48+12*(i:Int)+2,lk-1⟩]else wrL (i:Int) zbb 8)from rfl);generalize rmU (k:Int) (i:Int) lk=ru at *;obtain rfl:=EL3.o;clear EL3;obtain⟨d1,d2⟩:=yass (k:=(k:Int)) (x:=freeD) (by omega) yanb;have LD2:=zaa (LD.o (k:Int) freeD w3 B3.o (by show(0:Nat)<=maxLen;unfold maxLen;omega));rw[d1,d2,show freeD.v=.agg #[.I 0,.string ⟨#[]⟩,.I (-1)]from rfl]at LD2;have l3:(enL (k:Int) freeD).length<=3:=Nat.le_refl _;have LU2:=zaa (fun w1 hb=>LU.o (i:Int) xi w1 hb (by omega) (by rw[lx.o];omega));have EX:=zaa (show unL (i:Int) xi=if 1<lk then[⟨48+12*(i:Int)+2,lk-1⟩]else wrL (i:Int) zbb 8 by unfold unL;rw[lx.o]);rw[<- EX.o]at EU
 have l11:(unL (i:Int) xi).length<=11:=by
  rw[EX.o]
  split
  ·simp
  ·rw[zvg];omega
 rw[show xi.v=.agg #[.I xi.kind,.I xi.size,.I xi.links,.I xi.m0,.I xi.m1,.I xi.m2,.I xi.m3,.I xi.m4,.I xi.m5,.I xi.m6,.I xi.m7]from rfl]at LU2;generalize enL (k:Int) freeD=EN at *;generalize unL (i:Int) xi=UL at *;obtain⟨f0,f1,f2⟩:=FDB.o _ B3.o;clear d1 d2 LD LU EX lx;go_wp2_with (at_len;refine wpList_len_own _ rfl _ 210 rfl 9 3 mapU _ (w.heap.size+1) 4096 D3 rfl M3.o ?_);refine LD2.o.mono ?_;rintro e w4 ⟨v4,rfl,hr4,hb4⟩
 have J4:Hid (UpI w3 w4 v4 EN):=⟨hr4.1,hb4⟩
 obtain⟨-,aE,cE,hvE,-⟩:=hr4.rd;subst hvE;have A4:=zaa (zab A3.o hb4 A3.o.size);have B4:=zaa (zab B3.o hb4 B3.o.size);obtain⟨x0,x1⟩:=CA.o _ A4.o;obtain⟨c0,c1,c2,c3,c4,c5,c6,c7,c8,c9,c10⟩:=CI.o;have d0:=(B4.o.cell (p:=⟨bW,oW+i*11,none⟩) hblW).trans c0;have d1:=(B4.o.cell (p:=⟨bW,oW+i*11+1,none⟩) hblW).trans c1;have d2:=(B4.o.cell (p:=⟨bW,oW+i*11+2,none⟩) hblW).trans c2;have d3:=(B4.o.cell (p:=⟨bW,oW+i*11+3,none⟩) hblW).trans c3;have d4:=(B4.o.cell (p:=⟨bW,oW+i*11+4,none⟩) hblW).trans c4;have d5:=(B4.o.cell (p:=⟨bW,oW+i*11+5,none⟩) hblW).trans c5;have d6:=(B4.o.cell (p:=⟨bW,oW+i*11+6,none⟩) hblW).trans c6;have d7:=(B4.o.cell (p:=⟨bW,oW+i*11+7,none⟩) hblW).trans c7;have d8:=(B4.o.cell (p:=⟨bW,oW+i*11+8,none⟩) hblW).trans c8;have d9:=(B4.o.cell (p:=⟨bW,oW+i*11+9,none⟩) hblW).trans c9;have d10:=(B4.o.cell (p:=⟨bW,oW+i*11+10,none⟩) hblW).trans c10;clear c0 c1 c2 c3 c4 c5 c6 c7 c8 c9 c10 CI hr4 hb4 f0 f1 f2 LD2 FDB;go_wp2_with fail;refine(LU2.o _ B4.o).mono ?_;rintro e w5 ⟨v5,rfl,hr5,hb5⟩;have J5:=zaa (J4.o.below hb5);have R5:=zaa hr5.rd;obtain⟨-,aF,cF,hvF,-⟩:=hr5.rd;subst hvF;have z5:w3.heap.size<=w5.heap.size:=J5.o.z;clear hr5 hb5 J4 LU2 x0 x1 d0 d1 d2 d3 d4 d5 d6 d7 d8 d9 d10 CA;go_wp2_with (at_builtin;refine zae _ rfl (.tmp 42) (.tmp 49) 58 rfl w3.heap.size 104 (.agg #[.I 0,.I 0]) 2 16 Tryz.underlying58 zgr rfl (by decide) _ _ _ rfl J5.o.l _ _ _ rfl R5.o (zdi _) (by simp[maxLen];omega) (by omega) z5 ?_);intro vN wN hownN hgrN;have G:=zaa (J5.o.grow UL hownN hgrN);rw[<- EU.o]at G;have G2:=zaa (G.o.wide B3.o);obtain⟨-,aN,cN,hvN,-⟩:=(zad G2.o.l).rd;subst hvN;clear hownN hgrN J5 R5 G;go_wp2;go_ret2;exact zqw 0 G2.o
end Go.Proofs.YtogcbbkhnpmgeaaGreatDoor

namespace Go.Proofs.YtogcbbkhnpmgeaaGreatDoor
open Go.Shelf Go.RowKit
def zxy:Go.Shelf.Ren:=⟨fun | 190=>125 | 125=>178 | 258=>177 | 128=>227 | 129=>228 | 302=>218 | 303=>219 | 304=>220 | 305=>221 | 306=>222 | 307=>223 | 308=>224 | 309=>225 | 310=>226 | 333=>240 | 329=>241 | 330=>242 | 334=>243 | 335=>244 | 336=>245 | 344=>251 | n=>n,fun | 31=>33 | 9=>9 | 3=>3 | 46=>205 | 0=>0 | 51=>249 | 53=>251 | 4=>4 | 183=>241 | 182=>240 | 131=>246 | 5=>5 | 218=>260 | 222=>264 | 228=>271 | 229=>70 | n=>n,fun | n=>n⟩
theorem yafx:Go.Proofs.Lays.n190 Tryz.prog zxy:={
 mixed:=by kernel_rfl
 f125:=Tryz.func178.trans (congrArg some (by kernel_rfl))
 f128:=Tryz.func227.trans (congrArg some (by kernel_rfl))
 f129:=Tryz.func228.trans (congrArg some (by kernel_rfl))
 f190:=Tryz.func125.trans (congrArg some (by kernel_rfl))
 f258:=Tryz.func177.trans (congrArg some (by kernel_rfl))
 f302:=Tryz.func218.trans (congrArg some (by kernel_rfl))
 f303:=Tryz.func219.trans (congrArg some (by kernel_rfl))
 f304:=Tryz.func220.trans (congrArg some (by kernel_rfl))
 f305:=Tryz.func221.trans (congrArg some (by kernel_rfl))
 f306:=Tryz.func222.trans (congrArg some (by kernel_rfl))
 f307:=Tryz.func223.trans (congrArg some (by kernel_rfl))
 f308:=Tryz.func224.trans (congrArg some (by kernel_rfl))
 f309:=Tryz.func225.trans (congrArg some (by kernel_rfl))
 f310:=Tryz.func226.trans (congrArg some (by kernel_rfl))
 f329:=Tryz.func241.trans (congrArg some (by kernel_rfl))
 f330:=Tryz.func242.trans (congrArg some (by kernel_rfl))
 f333:=Tryz.func240.trans (congrArg some (by kernel_rfl))
 f334:=Tryz.func243.trans (congrArg some (by kernel_rfl))
 f335:=Tryz.func244.trans (congrArg some (by kernel_rfl))
 f336:=Tryz.func245.trans (congrArg some (by kernel_rfl))
 f344:=Tryz.func251.trans (congrArg some (by kernel_rfl))
 t0:=Tryz.underlying0
 a0:=Tryz.isAgg0
 z0:=Tryz.sizeOf0
 v0:=Tryz.zeroValue0
 t3:=Tryz.underlying3
 a3:=Tryz.isAgg3
 z3:=Tryz.sizeOf3
 v3:=Tryz.zeroValue3
 t4:=Tryz.underlying4
 a4:=Tryz.isAgg4
 z4:=Tryz.sizeOf4
 v4:=Tryz.zeroValue4
 t5:=Tryz.underlying5
 a5:=Tryz.isAgg5
 z5:=Tryz.sizeOf5
 v5:=Tryz.zeroValue5
 t9:=Tryz.underlying9
 a9:=Tryz.isAgg9
 z9:=Tryz.sizeOf9
 v9:=Tryz.zeroValue9
 t31:=Tryz.underlying33
 a31:=Tryz.isAgg33
 z31:=Tryz.sizeOf33
 v31:=Tryz.zeroValue33
 t46:=Tryz.underlying205
 a46:=Tryz.isAgg205
 z46:=Tryz.sizeOf205
 v46:=Tryz.zeroValue205
 t51:=Tryz.underlying249
 a51:=Tryz.isAgg249
 z51:=Tryz.sizeOf249
 v51:=Tryz.zeroValue249
 t53:=Tryz.underlying251
 a53:=Tryz.isAgg251
 z53:=Tryz.sizeOf251
 v53:=Tryz.zeroValue251
 t131:=Tryz.underlying246
 a131:=Tryz.isAgg246
 z131:=Tryz.sizeOf246
 v131:=Tryz.zeroValue246
 t182:=Tryz.underlying240
 a182:=Tryz.isAgg240
 z182:=Tryz.sizeOf240
 v182:=Tryz.zeroValue240
 t183:=Tryz.underlying241
 a183:=Tryz.isAgg241
 z183:=Tryz.sizeOf241
 v183:=Tryz.zeroValue241
 t218:=Tryz.underlying260
 a218:=Tryz.isAgg260
 z218:=Tryz.sizeOf260
 v218:=Tryz.zeroValue260
 t222:=Tryz.underlying264
 a222:=Tryz.isAgg264
 z222:=Tryz.sizeOf264
 v222:=Tryz.zeroValue264
 t228:=Tryz.underlying271
 a228:=Tryz.isAgg271
 z228:=Tryz.sizeOf271
 v228:=Tryz.zeroValue271
 t229:=Tryz.underlying70
 a229:=Tryz.isAgg70
 z229:=Tryz.sizeOf70
 v229:=Tryz.zeroValue70 }
open Go.Sort in
theorem yajf(blk off cap:Nat)(ss:List (List UInt8))(w:World)(hH:Holds encStr w blk off ss.toArray)(hblk:blk<w.heap.size)(hsz:ss.length<4611686018427387904) :
  zC 125 #[.slice (some ⟨blk,off,none⟩) ss.length cap] w fun e w' =>
   e=.returned (.tuple #[])/\∃ n os,w'=grow (putRow encStr (Sort.ahead w n) blk off (ss.mergeSort fun x y=>decide (x<=y)).toArray) os:=Any.slices_Sort_string yafx blk off cap ss w hH hblk hsz
theorem yalc(p:Option Addr)(cap:Nat)(w:World) :
  zC 125 #[.slice p 0 cap] w fun e w'=>e=.returned (.tuple #[])/\w'=w:=Any.slices_Sort_string_none yafx p cap w
end Go.Proofs.YtogcbbkhnpmgeaaGreatDoor
namespace Go.Proofs.YtogcbbkhnpmgeaaGreatDoor
open Go.RowKit Go.Sort
theorem yabt(ss:List ByteArray):zee (zdl ss)=((ss.map fun s=>s.data.toList).mergeSort fun x y=>decide (x<=y)).map encStr:=by
 unfold zee zdl;rw[List.map_map];rfl
theorem yais{w:World}{lo hi b n c:Nat}{ss:List ByteArray}(h:Row w 9 1 lo hi (.slice (some ⟨b,0,none⟩) n c) n (zee ss)):Holds encStr w b 0 (ss.map fun s=>s.data.toList).toArray:=by
 obtain⟨_,_,_,_,hf,hc⟩:=h.at
 have hl:=h.len;rw[zjx]at hl;intro j hj
 have hj':j<ss.length:=by simpa using hj
 rw[Nat.zero_add];refine⟨?_,hf j⟩;rw[hc j (by omega),zrb ss j hj',getElem!_pos _ j hj];simp[encStr]
theorem yarp {w:World} {lo hi b n c:Nat} {ss:List ByteArray} (h:Row w 9 1 lo hi (.slice (some ⟨b,0,none⟩) n c) n (zee ss)) (m:Nat) (os:Array Obj) (w':World)
  (e:w'=grow (putRow encStr (Sort.ahead w m) b 0 ((ss.map fun s=>s.data.toList).mergeSort fun x y=>decide (x<=y)).toArray) os) :
  Row w' 9 1 lo hi (.slice (some ⟨b,0,none⟩) n c) n (zee (zdl ss))/\w.grownBy w' (some b):=by
 have hl:=h.len;rw[zjx,Nat.mul_one]at hl;obtain⟨h1,h2⟩:=h;obtain⟨hx,h1 | ⟨g,cap,cur,e1,hb,hg,hnc,hcm,hcs,htake⟩⟩:=h1
 ·cases h1.1
 cases e1
 have SD:=yabt ss
 have DL:((ss.map fun s=>s.data.toList).mergeSort fun x y=>decide (x<=y)).length=ss.length:=by rw[List.length_mergeSort,List.length_map]
 generalize (ss.map fun s=>s.data.toList).mergeSort (fun x y=>decide (x<=y))=D at *;have hbl:b<w.heap.size:=(Array.getElem?_eq_some_iff.1 hg).1
 have hg':w'.heap[b]?=some (.cells (putCells encStr 0 D.toArray cur) 9 (0,0)):=by
  rw[e,heap_grow_old _ _ (by rw[size_putRow];exact hbl)];unfold putRow mapBlock
  show(w.heap.modify b _)[b]?=_
  rw[Array.getElem?_modify,if_pos rfl,hg];rfl
 refine⟨⟨⟨by rw[zjx,zhi];omega,.inr ⟨b,c,putCells encStr 0 D.toArray cur,rfl,hb,hg',hnc,hcm,by unfold putCells;rw[Array.size_mapIdx];exact hcs,?_⟩⟩,h2⟩,?_⟩
 ·rw[SD];apply List.ext_getElem?;intro i;rw[Nat.mul_one,List.getElem?_take,List.getElem?_map,Array.getElem?_toList];unfold putCells;rw[Array.getElem?_mapIdx]
  by_cases hi:i<n
  ·rw[if_pos hi,Array.getElem?_eq_getElem (show i<cur.size by omega),List.getElem?_eq_getElem (show i<D.length by omega)];simp only[Option.map_some];rw[if_pos ⟨Nat.zero_le _,by simp;omega⟩,Nat.sub_zero,getElem!_pos _ i (by simp;omega)];simp
  ·rw[if_neg hi,List.getElem?_eq_none (by omega)];rfl
 ·refine⟨by rw[e];rfl,by rw[e];rfl,by rw[e];rfl,by rw[e,size_grow,size_putRow];exact Nat.le_add_right _ _,fun k hk hne=>?_⟩;rw[e,heap_grow_old _ _ (by rw[size_putRow];exact hk)];unfold putRow mapBlock
  show(w.heap.modify b _)[k]?=_
  rw[Array.getElem?_modify,if_neg (fun x=>hne (by rw[x]))]
theorem yast(v:Value)(ss:List ByteArray)(lo hi:Nat)(w:World)(h:Row w 9 1 lo hi v ss.length (zee ss))(hn:ss.length<=1048576) :
  zC 125 #[v] w fun e w'=>e=.returned (.tuple #[])/\Row w' 9 1 lo hi v ss.length (zee (zdl ss))/\w.grownBy w' v.ownBlock:=by
 rcases h.shape with ⟨rfl,e0,_⟩ | ⟨b,c,rfl,hc,_⟩
 ·refine(yalc none 0 w).mono ?_;rintro e w' ⟨rfl,rfl⟩;have hs:ss=[]:=List.eq_nil_of_length_eq_zero e0;subst hs;exact⟨rfl,by rw[show zdl []=[] by simp[zdl]];exact h,World.grownBy.refl _ _⟩
 ·have hh:=yais h;have:=yajf b 0 c (ss.map fun s=>s.data.toList) w hh h.at.2.2.2.1 (by rw[List.length_map];omega);rw[List.length_map]at this;refine this.mono ?_;rintro e w' ⟨rfl,m,os,hw'⟩;exact⟨rfl,yarp h m os w' hw'⟩
end Go.Proofs.YtogcbbkhnpmgeaaGreatDoor

namespace Go.Proofs.YtogcbbkhnpmgeaaGreatDoor
open Go.RowKit
theorem zne(v:Value)(ws:List Ino)(ps:List Den)(d:Int)(w:World)(h:RdIm w v ws ps)(hw:ws.length<=1048576)(hp:ps.length<=1048576)(hT:TS w)(hE:ED w)(hF:FD w)(hr:∀ k (h:k<ws.length),ws[k].R)(hs:∀ k (h:k<ps.length),ps[k].name.size<=maxLen) :
  zC 69 #[v,.I d] w fun e w'=>∃ v',e=.returned (.tuple #[v',.I (eoC ws ps d)])/\Row w' 9 1 w.heap.size w'.heap.size v' (eoL ws ps d).length (zee (eoL ws ps d))/\zB w w':=by
 have LI:=zaa (fun w1 (hb:zB w w1)=>zby v ws ps w1 (h.below hb) hw hp (hT.below hb) (hE.below hb) (hF.below hb) hr hs);have FD_:=zaa hF;obtain⟨vW,vP,rfl,h1,h2⟩:=h;have RP:=zaa h2;obtain⟨aW,cW,rfl,_,hcW⟩:=h1.shape;have HW:=zaa hcW;obtain⟨aP,cP,rfl,_,_⟩:=h2.shape;have LM:=zaa (fun w1 (hb:zB w w1) (hl:ps.length<=4096)=>zit (.slice aP ps.length cP) ps w1 (Rd.below RP.o hb) hl (FD_.o.below hb));clear h1 h2 hr hs hT hE hF hcW
 have CA:Hid (∀ w',Below (w.alloc (.cells #[.slice aW ws.length cW,.slice aP ps.length cP] 51)).heap.size (w.alloc (.cells #[.slice aW ws.length cW,.slice aP ps.length cP] 51)) w'->w'.cell? ⟨w.heap.size,0,none⟩=some (.slice aW ws.length cW)/\w'.cell? ⟨w.heap.size,1,none⟩=some (.slice aP ps.length cP)):=fun w' hb=>by
  have:w'.heap[w.heap.size]?=some (.cells #[.slice aW ws.length cW,.slice aP ps.length cP] 51 (0,0)):=(hb.block _ (by simp)).trans (zaf rfl);exact⟨(zac this).1,(zac this).2.1⟩
 have BW:Hid (zB w (w.alloc (.cells #[.slice aW ws.length cW,.slice aP ps.length cP] 51))):=zR.alloc zL _;obtain⟨x0,x1⟩:=CA.o _ zR
 cases c1:zbg ws ps with
 | false =>
  rw[c1]at LI
  have E1:eoC ws ps d=1:=by unfold eoC;rw[c1];rfl
  rw[show eoL ws ps d=[] by unfold eoL;rw[E1];rfl,E1];clear c1 E1;go_enter Tryz.func69,Tryz.ntmps69;go_wp2_with fail;refine(LI.o _ BW.o).mono ?_;rintro e w1 ⟨rfl,hb1⟩;have B1:=zaa (zab BW.o hb1 BW.o.size);clear hb1 x0 x1;go_wp2;go_ret2;exact⟨_,rfl,Row.nil _ _ _ _ _,B1.o⟩
 | true =>
 rw[c1]at LI
 by_cases c2:0<=d/\d<=15
 case neg =>
  have E1:eoC ws ps d=4:=by unfold eoC;rw[if_pos c1,if_neg c2]
  rw[show eoL ws ps d=[] by unfold eoL;rw[E1];rfl,E1]
  have C2:Hid (¬ (0<=d/\d<16)):=fun h=>c2 (by omega)
  clear c1 c2 E1;go_enter Tryz.func69,Tryz.ntmps69;go_wp2_with fail;refine(LI.o _ BW.o).mono ?_;rintro e w1 ⟨rfl,hb1⟩;have B1:=zaa (zab BW.o hb1 BW.o.size);clear hb1 x0 x1;go_wp2_with fail;refine(zbv _ _ _ C2.o).mono ?_;rintro e w2 ⟨rfl,hw2⟩;subst w2;go_wp2;go_ret2;exact⟨_,rfl,Row.nil _ _ _ _ _,B1.o⟩
 obtain⟨dn,hdn⟩:∃ n:Nat,d=(n:Int):=⟨d.toNat,by omega⟩
 have L24:=zaa (show ps.length<=4096 by have:=(zfj c1).2.1;omega)
 have d1:dn<ws.length:=by have:=(zfj c1).1;omega
 obtain⟨bW,oW,rfl,hblW,hcellW⟩:=HW.o (by omega)
 have HK:Hid (∀ w',zB w w'->w'.cell? ⟨bW,oW+dn*11,none⟩=some (.I (zaj ws d))):=fun w' hb=>by
  rw[hdn,zbk d1];exact(hb.cell (p:=⟨bW,oW+dn*11,none⟩) hblW).trans (hcellW dn d1).1
 clear hcellW HW
 have C2:Hid (0<=d/\d<16):=by unfold Hid;omega
 have d2:(0:Int)<=(dn:Int):=by omega
 have d3:(dn:Int)<(ws.length:Int):=by omega
 have ENC:Hid (eoC ws ps d=if zaj ws d=2 then 0 else 10):=by unfold Hid eoC;rw[if_pos c1,if_pos c2]
 have ENL:Hid (eoC ws ps d=0->eoL ws ps d=zdl (zxo (zau ps) d)):=fun h=>by unfold eoL;rw[if_pos h,yahp (yaul c1)]
 have ENN:Hid (eoC ws ps d=10->eoL ws ps d=[]):=fun h=>by unfold eoL;rw[h];rfl
 have tl:(zau ps).length<=24:=by have:=zrd ps;have:=(zfj c1).2.1;omega
 generalize eoC ws ps d=EC at *;generalize eoL ws ps d=EL at *;generalize zaj ws d=kd at *;clear c1 c2;subst hdn
 by_cases c3:kd=2
 case neg =>
  have e1:EC=10:=by rw[ENC.o,if_neg c3]
  rw[ENN.o e1,e1]
  have q:(kd != 2)=true:=by rw[bne_iff_ne];exact c3
  clear c3 e1 ENC ENL ENN;go_enter Tryz.func69,Tryz.ntmps69;go_wp2_with fail;refine(LI.o _ BW.o).mono ?_;rintro e w1 ⟨rfl,hb1⟩;have B1:=zaa (zab BW.o hb1 BW.o.size);clear x0 x1;obtain⟨x0,x1⟩:=CA.o _ hb1;clear hb1;have k1:=HK.o w1 B1.o;go_wp2_with fail;refine(zav _ _ _ C2.o).mono ?_;rintro e w2 ⟨rfl,hw2⟩;subst w2;go_wp2;go_ret2;exact⟨_,rfl,Row.nil _ _ _ _ _,B1.o⟩
 have e1:EC=0:=by rw[ENC.o,if_pos c3]
 rw[ENL.o e1,e1]
 have q:(kd != 2)=false:=by rw[c3];rfl
 clear c3 e1 ENC ENL ENN;generalize zau ps=ts at *;go_enter Tryz.func69,Tryz.ntmps69;go_wp2_with fail;refine(LI.o _ BW.o).mono ?_;rintro e w1 ⟨rfl,hb1⟩;have B1:=zaa (zab BW.o hb1 BW.o.size);clear x0 x1;obtain⟨x0,x1⟩:=CA.o _ hb1;clear hb1;have k1:=HK.o w1 B1.o;go_wp2_with fail;refine(zav _ _ _ C2.o).mono ?_;rintro e w2 ⟨rfl,hw2⟩;subst w2;go_wp2_with fail;refine(LM.o _ B1.o L24.o).mono ?_;rintro e w2 ⟨v2,rfl,hr2,hb2⟩;obtain⟨-,aM,cM,hvM,-⟩:=hr2.rd;subst hvM;have R2:Hid (RdD w2 (.slice aM ts.length cM) ts):=hr2.rd;have B2:=zaa (zab B1.o hb2 B1.o.size);have hz2:w.heap.size<=w2.heap.size:=B2.o.size;obtain⟨aZ,cZ,eZ,_,hcZ⟩:=R2.o.shape;have HZ:=zaa hcZ
 obtain⟨rfl,rfl⟩:aZ=aM/\cZ=cM:=by cases eZ;exact⟨rfl,rfl⟩
 clear eZ hcZ hr2 hb2 x0 x1 k1 LI LM HK CA;go_wp2
 go_loopw [6,8,26] (fun vL _ i wr=>∃ k:Nat,k<=ts.length/\i=.I k/\Hid (SnI w2 wr vL (zxo (ts.take k) (dn:Int)))/\w2.heap.size<=wr.heap.size) (fun _ _ i _=>ts.length-(intOf i).toNat)
 case atStart=>exact⟨0,by omega,rfl,⟨World.ownsRow_nil _ _ _ _,zR⟩,Nat.le_refl _⟩
 case round =>
  obtain⟨k,hk,rfl,I,hz⟩:=hrel
  by_cases hlt:k<ts.length
  ·obtain⟨b,o,rfl,hbl,hcell⟩:=HZ.o (by omega);obtain⟨a0,a1,a2⟩:=hcell k hlt;have f0:=(I.o.b.cell (p:=⟨b,o+k*3,none⟩) hbl).trans a0;have f1:=(I.o.b.cell (p:=⟨b,o+k*3+1,none⟩) hbl).trans a1;have f2:=(I.o.b.cell (p:=⟨b,o+k*3+2,none⟩) hbl).trans a2
   have k0:(0:Int)<=(k:Int):=by omega
   have k1:(k:Int)<(ts.length:Int):=by omega
   have US:=zaa (yakv (d:=(dn:Int)) hlt);have UL:=yaex (ts.take k) (dn:Int);rw[List.length_take]at UL;clear hcell a0 a1 a2;generalize ts[k]=x at *
   obtain⟨wx,hwx⟩:=zE (wr.alloc (.cells #[.I x.dir,.string x.name,.I x.child] 90))
   have BX:Hid (zB wr wx):=by rw[hwx];exact zR.alloc zL _
   have IX:=zaa (I.o.below BX.o);have hzx:=IX.o.z
   by_cases r:x.dir=(dn:Int)
   ·have r':(x.dir == (dn:Int))=true:=by rw[beq_iff_eq];exact r
    have JB:Hid (SnI w2 (wx.alloc (.cells #[.string x.name] 9)) u6 (zxo (ts.take k) (dn:Int))):=IX.o.below (zR.alloc zL _);have RB:=zaa (zjn wx x.name);have hzb:=JB.o.z
    have MN:Hid (zxo (ts.take (k+1)) (dn:Int)=zxo (ts.take k) (dn:Int)++[x.name]):=by unfold Hid;rw[US.o,if_pos r]
    rw[hwx]at JB RB hzb;simp only[World.size_alloc]at RB hzb;clear r I US IX BX;go_wp2_with (at_builtin;refine zae _ rfl (.tmp 34) (.tmp 37) 33 rfl w2.heap.size 9 (.string ⟨#[]⟩) 1 16 Tryz.underlying33 zfr rfl (by decide) _ _ _ rfl JB.o.l _ 1 _ rfl RB.o (zbr _) (by simp[maxLen];omega) (by omega) JB.o.z ?_);intro vN wN hownN hgrN;have G:=zaa (JB.o.grow [x.name] rfl hownN hgrN);rw[<- MN.o]at G;have hzN:=G.o.z;clear hownN hgrN JB RB;go_wp2
    go_roundw
    case rel=>exact⟨k+1,by omega,by go_num,G,hzN⟩
    case measure=>simp[intOf];omega
   ·have r':(x.dir == (dn:Int))=false:=by rw[beq_eq_false_iff_ne];exact r
    have G:Hid (SnI w2 wx u6 (zxo (ts.take (k+1)) (dn:Int))):=by unfold Hid;rw[US.o,if_neg r];exact IX.o
    clear r I US IX BX;go_wp2;rw[<- hwx]
    go_roundw
    case rel=>exact⟨k+1,by omega,by go_num,G,hzx⟩
    case measure=>simp[intOf];omega
  ·obtain rfl:k=ts.length:=by omega
   have E:=zaa (show zxo (ts.take ts.length) (dn:Int)=zxo ts (dn:Int) by rw[List.take_length]);rw[E.o]at I;have SL:=yaex ts (dn:Int);have SRT:=zaa (yast u6 (zxo ts (dn:Int)) w2.heap.size wr.heap.size wr (zad I.o.l) (by omega));have SLN:=zaa (zhi (zxo ts (dn:Int)));go_wp2_with fail;refine SRT.o.mono ?_;rintro e w3 ⟨rfl,hr3,hg3⟩;have B3:Hid (zB w2 w3):=I.o.b.grown hg3 hz (fun q hq=>(I.o.l.lt q hq).1);have R3:=zaa (hr3.wide hz2 hg3.size);obtain⟨-,aL,cL,hvL,-⟩:=hr3.rd;subst hvL;clear hr3 hg3 I SRT;go_wp2;go_ret2;exact⟨_,rfl,by rw[SLN.o];exact R3.o,zab B2.o B3.o hz2⟩
end Go.Proofs.YtogcbbkhnpmgeaaGreatDoor
