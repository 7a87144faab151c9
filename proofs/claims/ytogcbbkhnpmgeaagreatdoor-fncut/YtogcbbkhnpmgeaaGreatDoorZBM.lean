import Derived.Test.YtogcbbkhnpmgeaaGreatDoorZBL
import Derived.WalkMore
import Derived.Shelf.Small.Strs
import Derived.Shelf.Small.Wraps
import Derived.Shelf.Strings.Search3
import Derived.Shelf.Strings.Count
import Derived.Shelf.Strings.Split
set_option maxRecDepth 100000
set_option maxHeartbeats 4000000
namespace Go.Proofs.YtogcbbkhnpmgeaaGreatDoor
open Go.RowKit
theorem yaui{ws:List Int}{ps:List St}{es:List Int}{qs:List Se}(h:zfj es qs=false):dvN ws ps es qs=[]/\dvD ws ps es qs=[]:=(yapd (by rw[h,Bool.and_false])).2
theorem yavz{ws:List Int}{ps:List St}{es:List Int}{qs:List Se}(h:zfj es qs=true):dvN ws ps es qs=riN ws ps/\dvD ws ps es qs=riD ws ps:=by
 cases p:pmB ws ps with
 | true=>exact(yarz (by rw[p,h];rfl)).2
 | false =>
  obtain⟨-,a,b⟩:=yaot p;obtain⟨-,c,d⟩:=yapd (ws:=ws) (ps:=ps) (es:=es) (qs:=qs) (by rw[p];rfl);exact⟨by rw[a,c],by rw[b,d]⟩
theorem zky{ws:List Int}{ps:List St}{es:List Int}{qs:List Se}(h:¬ dvB ws ps es qs=true):dvN ws ps es qs=[]/\dvD ws ps es qs=[]:=⟨by unfold dvN;rw[if_neg h],by unfold dvD;rw[if_neg h]⟩
theorem dv_R{ws:List Int}{ps:List St}{es:List Int}{qs:List Se}:∀ k (h:k<(dvN ws ps es qs).length),(dvN ws ps es qs)[k].R:=by
 by_cases c:dvB ws ps es qs=true
 ·obtain⟨p,-,e,-,-⟩:=zll c;rw[e];exact zsi p 16
 ·rw[(zky c).1];intro k h
  cases h
theorem yaqg{ws:List Int}{ps:List St}{es:List Int}{qs:List Se}:∀ k (h:k<(dvD ws ps es qs).length),(dvD ws ps es qs)[k].name.size<=maxLen:=by
 by_cases c:dvB ws ps es qs=true
 ·obtain⟨p,-,-,e,-⟩:=zll c;rw[e];exact zir _ 24
 ·rw[(zky c).2];intro k h
  cases h
theorem yaow(ws:List Int)(ps:List St)(es:List Int)(qs:List Se):(dvN ws ps es qs).length<=1048576/\(dvD ws ps es qs).length<=1048576:=by
 by_cases c:dvB ws ps es qs=true
 ·obtain⟨-,-,e1,e2,-⟩:=zll c;rw[e1,e2,zca,zbl];omega
 ·rw[(zky c).1,(zky c).2];exact⟨by simp,by simp⟩
theorem yale:zcr [] []=false:=by decide
theorem yapo(ws:List Int)(ps:List St)(es:List Int)(qs:List Se):zcr (dvN ws ps es qs) (dvD ws ps es qs)=dvB ws ps es qs:=by
 by_cases c:dvB ws ps es qs=true
 ·obtain⟨-,-,e1,e2,h⟩:=zll c;rw[e1,e2,h,c]
 ·rw[(zky c).1,(zky c).2,yale];exact((Bool.not_eq_true _).mp c).symm
theorem zss(v:Value)(ws:List Int)(ps:List St)(es:List Int)(qs:List Se)(w:World)(h:RdDev w v ws ps es qs)(hw:ws.length<=1048576)(hp:ps.length<=1048576)(he:es.length<=1048576)(hq:qs.length<=1048576)(hT:TS w)(hE:ED w)(hF:FD w) :
  zC 23 #[v] w fun e w'=>∃ v',e=.returned v'/\RowIm w' w.heap.size w'.heap.size v' (dvN ws ps es qs) (dvD ws ps es qs)/\zB w w':=by
 obtain⟨aW,cW,aP,cP,aS,cS,aQ,cQ,rfl,h1,h2⟩:=h.form;have LO:=zaa (fun w1 (hb:zB w w1)=>zeo _ es qs w1 (h2.below hb) he hq);have LR:=zaa (fun w1 (hb:zB w w1)=>zgd _ ws ps w1 (h1.below hb) hw hp (hT.below hb) (hE.below hb) (hF.below hb));have NO:=zaa (fun q=>yaui (ws:=ws) (ps:=ps) (es:=es) (qs:=qs) q);have YES:=zaa (fun q=>yavz (ws:=ws) (ps:=ps) (es:=es) (qs:=qs) q);clear h h1 h2 hT hE hF
 obtain⟨W1,hW1⟩:=zE ((w.alloc (.cells #[.slice aW ws.length cW,.slice aP ps.length cP,.slice aS es.length cS,.slice aQ qs.length cQ] 31)).alloc (.cells #[.N,.N] 51))
 have hz1:W1.heap.size=w.heap.size+1+1:=by rw[hW1];simp
 have CA:Hid (∀ w',zB W1 w'->w'.cell? ⟨w.heap.size,0,none⟩=some (.slice aW ws.length cW)/\w'.cell? ⟨w.heap.size,1,none⟩=some (.slice aP ps.length cP)/\w'.cell? ⟨w.heap.size,2,none⟩=some (.slice aS es.length cS)/\w'.cell? ⟨w.heap.size,3,none⟩=some (.slice aQ qs.length cQ)):=fun w' hb=>by
  have:w'.heap[w.heap.size]?=some (.cells #[.slice aW ws.length cW,.slice aP ps.length cP,.slice aS es.length cS,.slice aQ qs.length cQ] 31 (0,0)):=(hb.block _ (by omega)).trans (by rw[hW1];exact zal (zah rfl));obtain⟨x0,x1,x2,x3,-,-,-,-⟩:=zao this;exact⟨x0,x1,x2,x3⟩
 have CR:Hid (∀ w',zB W1 w'->w'.heap[w.heap.size+1]?=some (.cells #[.N,.N] 51 (0,0))):=fun w' hb=>(hb.block _ (by omega)).trans (by
  rw[hW1];have:=zah (w:=w.alloc (.cells #[.slice aW ws.length cW,.slice aP ps.length cP,.slice aS es.length cS,.slice aQ qs.length cQ] 31)) (o:=.cells #[.N,.N] 51) rfl;rw[World.size_alloc]at this
  exact this)
 have BW:Hid (zB w W1):=by rw[hW1];exact(zR.alloc zL _).alloc (by simp) _
 have hz0:w.heap.size+1<W1.heap.size:=by omega
 clear hz1;obtain⟨x0,x1,x2,x3⟩:=CA.o W1 zR;generalize riC ws ps=rc at *;generalize riN ws ps=rn at *;generalize riD ws ps=rd at *;generalize dvN ws ps es qs=dn at *;generalize dvD ws ps es qs=dd at *;generalize zfj es qs=ok at *;go_enter Tryz.func23,Tryz.ntmps23;go_wp2_with fail;rw[<- hW1];clear hW1;refine(LO.o _ BW.o).mono ?_;rintro e w1 ⟨rfl,hb1⟩;have B1:=zaa hb1;have B1w:=zaa (zab BW.o B1.o BW.o.size);clear x0 x1 x2 x3 hb1;obtain⟨x0,x1,x2,x3⟩:=CA.o w1 B1.o
 cases ok with
 | false =>
  obtain⟨rfl,rfl⟩:=NO.o rfl;have CB:=zaa (CR.o _ B1.o);obtain⟨p0,p1,p2,p3⟩:=zac CB.o;have BR:Hid (zB w ((w1.setCell ⟨w.heap.size+1,0,none⟩ (.N)).setCell ⟨w.heap.size+1,1,none⟩ (.N))):=(B1w.o.setCell (by simp only;omega) _).setCell (by simp only;omega) _;clear NO YES;go_wp2;refine bodyPost_ret (v:=.agg #[.N,.N]) (by simp[results,Tryz.results23,go_sem,p0,p1]) rfl ?_;exact⟨_,rfl,zhk _ _ _,BR.o⟩
 | true =>
  obtain⟨rfl,rfl⟩:=YES.o rfl;clear NO YES;go_wp2_with fail;refine(LR.o _ B1w.o).mono ?_;rintro e w2 ⟨v2,rfl,⟨vI,vD,rfl,hI,hD⟩,hb2⟩;obtain⟨-,a1,c1,hv1,-⟩:=hI.rd;obtain⟨-,a2,c2,hv2,-⟩:=hD.rd;subst hv1;subst hv2;have HI:=zaa hI;have HD:=zaa hD;have B2:=zaa (zpj B1.o hb2);have B3:Hid (zB W1 (w2.alloc (.cells #[.slice a1 dn.length c1,.slice a2 dd.length c2] 51))):=zav B2.o _;have hz12:W1.heap.size<=w1.heap.size:=B1.o.size;have hz2:w1.heap.size<=w2.heap.size:=hb2.size;have hzw:w.heap.size<=w1.heap.size:=B1w.o.size;clear x0 x1 x2 x3 hb2 hI hD;obtain⟨y0,y1,_,_⟩:=zac (zah (w:=w2) (o:=.cells #[.slice a1 dn.length c1,.slice a2 dd.length c2] 51) rfl)
  obtain⟨w3,hw3⟩:=zE (w2.alloc (.cells #[.slice a1 dn.length c1,.slice a2 dd.length c2] 51))
  have BC:Hid (zB w2 w3):=by rw[hw3];exact zR.alloc zL _
  rw[<- hw3]at B3 y0 y1;have HI3:=zaa (HI.o.below BC.o zL);have HD3:=zaa (HD.o.below BC.o zL);have hz3:w2.heap.size<=w3.heap.size:=BC.o.size;have CB:=zaa (CR.o _ B3.o);obtain⟨p0,p1,p2,p3⟩:=zac CB.o;have BR:Hid (zB w ((w3.setCell ⟨w.heap.size+1,0,none⟩ (.slice a1 dn.length c1)).setCell ⟨w.heap.size+1,1,none⟩ (.slice a2 dd.length c2))):=((zab BW.o B3.o BW.o.size).setCell (by simp only;omega) _).setCell (by simp only;omega) _;have RF:=zaa (zqh (yajm HI3.o HD3.o CB.o (.slice a1 dn.length c1) (.slice a2 dd.length c2)) (lo':=w.heap.size) (hi':=((w3.setCell ⟨w.heap.size+1,0,none⟩ (.slice a1 dn.length c1)).setCell ⟨w.heap.size+1,1,none⟩ (.slice a2 dd.length c2)).heap.size) (by omega) (by simp;omega));clear CB HI HD HI3 HD3 BC B3 B2 LR LO CA CR;subst hw3;go_wp2;refine bodyPost_ret (v:=.agg #[.slice a1 dn.length c1,.slice a2 dd.length c2]) (by simp[results,Tryz.results23,go_sem,p0,p1]) rfl ?_;exact⟨_,rfl,RF.o,BR.o⟩
theorem zur(v:Value)(ws:List Ino)(ps:List Den)(i:Int)(w:World)(h:RdIm w v ws ps)(hl:ws.length=16)(h0:0<=i/\i<=15) :
  zC 84 #[v,.I i] w fun e w'=>e=.returned (.bool (zai ws i == 2))/\zB w w':=by
 obtain⟨vW,vP,rfl,h1,h2⟩:=h;obtain⟨aW,cW,rfl,_,hcW⟩:=h1.shape;obtain⟨aP,cP,rfl,_,_⟩:=h2.shape
 obtain⟨n,rfl⟩:∃ n:Nat,i=(n:Int):=⟨i.toNat,by omega⟩
 have hn:n<ws.length:=by omega
 obtain⟨bW,oW,rfl,hblW,hcellW⟩:=hcW (by omega);have BW:Hid (zB w (w.alloc (.cells #[.slice (some ⟨bW,oW,none⟩) ws.length cW,.slice aP ps.length cP] 51))):=zR.alloc zL _;have k0:=(BW.o.cell (p:=⟨bW,oW+n*11,none⟩) hblW).trans (hcellW n hn).1;rw[<- zbk hn]at k0
 have n0:(0:Int)<=(n:Int):=by omega
 have n1:(n:Int)<(ws.length:Int):=by omega
 clear h1 h2 hcW hcellW hl h0 hn;generalize zai ws (n:Int)=kk at *;go_enter Tryz.func84,Tryz.ntmps84;go_wp2;go_ret;exact⟨rfl,BW.o⟩
end Go.Proofs.YtogcbbkhnpmgeaaGreatDoor

namespace Go.Proofs.YtogcbbkhnpmgeaaGreatDoor
open Go.Shelf Go.RowKit
def zyf:Go.Shelf.Ren:=⟨fun | 103=>215 | 210=>238 | 206=>247 | n=>n,fun | 9=>9 | 4=>4 | 24=>194 | 3=>3 | n=>n,fun | n=>n⟩
theorem yarw:Go.Proofs.Lays.n103 Tryz.prog zyf:={
 mixed:=by kernel_rfl
 f103:=Tryz.func215.trans (congrArg some (by kernel_rfl))
 f206:=Tryz.func247.trans (congrArg some (by kernel_rfl))
 f210:=Tryz.func238.trans (congrArg some (by kernel_rfl))
 t3:=Tryz.underlying3
 a3:=Tryz.isAgg3
 z3:=Tryz.sizeOf3
 v3:=Tryz.zeroValue3
 t4:=Tryz.underlying4
 a4:=Tryz.isAgg4
 z4:=Tryz.sizeOf4
 v4:=Tryz.zeroValue4
 t9:=Tryz.underlying9
 a9:=Tryz.isAgg9
 z9:=Tryz.sizeOf9
 v9:=Tryz.zeroValue9
 t24:=Tryz.underlying194
 a24:=Tryz.isAgg194
 z24:=Tryz.sizeOf194
 v24:=Tryz.zeroValue194 }
def zgn:Go.Shelf.Ren:=⟨fun | 146=>216 | 221=>239 | 268=>248 | 138=>249 | 143=>250 | 195=>252 | 197=>253 | 218=>254 | 219=>255 | 260=>256 | 217=>257 | 225=>258 | 224=>259 | 267=>260 | 266=>261 | 314=>262 | n=>n,fun | 9=>9 | 31=>33 | 3=>3 | 4=>4 | 0=>0 | 105=>273 | 21=>21 | 5=>5 | 46=>205 | 119=>276 | 139=>279 | 138=>278 | 146=>280 | 51=>249 | n=>n,fun | 1=>4 | 3=>5 | 4=>6 | n=>n⟩
theorem zyl:Go.Proofs.Lays.n146 Tryz.prog zgn:={
 mixed:=by kernel_rfl
 f138:=Tryz.func249.trans (congrArg some (by kernel_rfl))
 f143:=Tryz.func250.trans (congrArg some (by kernel_rfl))
 f146:=Tryz.func216.trans (congrArg some (by kernel_rfl))
 f195:=Tryz.func252.trans (congrArg some (by kernel_rfl))
 f197:=Tryz.func253.trans (congrArg some (by kernel_rfl))
 f217:=Tryz.func257.trans (congrArg some (by kernel_rfl))
 f218:=Tryz.func254.trans (congrArg some (by kernel_rfl))
 f219:=Tryz.func255.trans (congrArg some (by kernel_rfl))
 f221:=Tryz.func239.trans (congrArg some (by kernel_rfl))
 f224:=Tryz.func259.trans (congrArg some (by kernel_rfl))
 f225:=Tryz.func258.trans (congrArg some (by kernel_rfl))
 f260:=Tryz.func256.trans (congrArg some (by kernel_rfl))
 f266:=Tryz.func261.trans (congrArg some (by kernel_rfl))
 f267:=Tryz.func260.trans (congrArg some (by kernel_rfl))
 f268:=Tryz.func248.trans (congrArg some (by kernel_rfl))
 f314:=Tryz.func262.trans (congrArg some (by kernel_rfl))
 t0:=Tryz.underlying0
 a0:=Tryz.isAgg0
 z0:=Tryz.sizeOf0
 v0:=Tryz.zeroValue0
 t3:=Tryz.underlying3
 a3:=Tryz.isAgg3
 z3:=Tryz.sizeOf3
 v3:=Tryz.zeroValue3
 t4:=Tryz.underlying4
 a4:=Tryz.isAgg4
 z4:=Tryz.sizeOf4
 v4:=Tryz.zeroValue4
 t5:=Tryz.underlying5
 a5:=Tryz.isAgg5
 z5:=Tryz.sizeOf5
 v5:=Tryz.zeroValue5
 t9:=Tryz.underlying9
 a9:=Tryz.isAgg9
 z9:=Tryz.sizeOf9
 v9:=Tryz.zeroValue9
 t21:=Tryz.underlying21
 a21:=Tryz.isAgg21
 z21:=Tryz.sizeOf21
 v21:=Tryz.zeroValue21
 t31:=Tryz.underlying33
 a31:=Tryz.isAgg33
 z31:=Tryz.sizeOf33
 v31:=Tryz.zeroValue33
 t46:=Tryz.underlying205
 a46:=Tryz.isAgg205
 z46:=Tryz.sizeOf205
 v46:=Tryz.zeroValue205
 t51:=Tryz.underlying249
 a51:=Tryz.isAgg249
 z51:=Tryz.sizeOf249
 v51:=Tryz.zeroValue249
 t105:=Tryz.underlying273
 a105:=Tryz.isAgg273
 z105:=Tryz.sizeOf273
 v105:=Tryz.zeroValue273
 t119:=Tryz.underlying276
 a119:=Tryz.isAgg276
 z119:=Tryz.sizeOf276
 t138:=Tryz.underlying278
 a138:=Tryz.isAgg278
 z138:=Tryz.sizeOf278
 v138:=Tryz.zeroValue278
 t139:=Tryz.underlying279
 a139:=Tryz.isAgg279
 z139:=Tryz.sizeOf279
 v139:=Tryz.zeroValue279
 t146:=Tryz.underlying280
 a146:=Tryz.isAgg280
 z146:=Tryz.sizeOf280
 v146:=Tryz.zeroValue280
 g1:=by kernel_rfl
 g3:=by kernel_rfl
 g4:=by kernel_rfl }
end Go.Proofs.YtogcbbkhnpmgeaaGreatDoor

namespace Go.Proofs.YtogcbbkhnpmgeaaGreatDoor
open Go.Shelf Go.RowKit Go.Lib
theorem zrw(s p:ByteArray)(w:World) :
  zC 215 #[.string s,.string p] w fun e w'=>e=.returned (.tuple #[.string ⟨(Lib.trimPrefix s.data.toList p.data.toList).toArray⟩,.bool (Lib.hasPrefix s.data.toList p.data.toList)])/\w'=w:=Any.strings_CutPrefix yarw s p w
theorem zwq(x:ByteArray)(w:World):zC 250 #[.string x,.string ⟨#[47]⟩] w fun e w'=>e=.returned (.I (Lib.indexB x ⟨#[47]⟩))/\w'=w:=by
 refine(show zC 250 #[.string x,.string ⟨#[47]⟩] w fun e w'=>e=.returned (.I (Lib.indexByte x.data.toList 47))/\w'=w from Any.strings_Index_one (ρ:=zgn) { zyl with } x 47 w).mono fun e w' ⟨he,hw⟩=>⟨?_,hw⟩
 rw[he]
 show _=Ending.returned (Value.I (Lib.index x.data.toList [47]))
 rw[Lib.index_one]
theorem zxi(x:ByteArray)(w:World):zC 249 #[.string x,.string ⟨#[47]⟩] w fun e w'=>e=.returned (.I (Lib.countB x ⟨#[47]⟩))/\w'=w:=by
 refine(show zC 249 #[.string x,.string ⟨#[47]⟩] w fun e w'=>e=.returned (.I (Lib.countByte x.data.toList 47))/\w'=w from Any.strings_Count_one (ρ:=zgn) { zyl with } x 47 w).mono fun e w' ⟨he,hw⟩=>⟨?_,hw⟩
 rw[he]
 show _=Ending.returned (Value.I ((Lib.count x.data.toList [47]:Nat):Int))
 rw[Lib.count_one];rfl
theorem zxp(s:ByteArray)(w:World)(hs:s.size<4294967281) :
  zC 216 #[.string s,.string ⟨#[47]⟩] w fun e w' =>
   e=.returned (.slice (some ⟨w.heap.size,0,none⟩) (pcs s).length (pcs s).length)/\w'=w.alloc (.cells (zel (pcs s)).toArray 9):=by
 have hle:=Lib.countB_le ⟨#[47]⟩ (by decide) s.size s zL;have hlen:=Lib.splitB_all ⟨#[47]⟩ (by decide) 0 _ s rfl
 have c:zC 239 #[.string s,.string ⟨#[47]⟩,.I ((0:Nat):Int),.I (-1)] w fun e w' =>
   e=.returned (.slice (some ⟨w.heap.size,0,none⟩) (Lib.splitB ⟨#[47]⟩ 0 (Lib.countB s ⟨#[47]⟩+1-1) s).length (Lib.countB s ⟨#[47]⟩+1))/\w'=w.alloc (.cells (Lib.cellsOf (Lib.splitB ⟨#[47]⟩ 0 (Lib.countB s ⟨#[47]⟩+1-1) s) (Lib.countB s ⟨#[47]⟩+1)) 9) :=
  Any.strings_genSplit_core (ρ:=zgn) { zyl with } (by kernel_rfl) s ⟨#[47]⟩ 0 (-1) (Lib.countB s ⟨#[47]⟩+1) w hs (by decide) (Nat.zero_le _) (fun x _ _=>zwq x _) (zxi s w) (by decide) (by decide) (by rw[if_pos (by decide)];omega)
 rw[Nat.add_sub_cancel,hlen]at c
 have e2:Lib.cellsOf (Lib.splitB ⟨#[47]⟩ 0 (Lib.countB s ⟨#[47]⟩) s) (Lib.countB s ⟨#[47]⟩+1)=((Lib.splitB ⟨#[47]⟩ 0 (Lib.countB s ⟨#[47]⟩) s).map Value.string).toArray:=by rw[<- hlen];exact Lib.cellsOf_full _
 rw[e2,ztw,yaig]at c;have C:=zaa c;clear c hle hlen e2;unfold zel;generalize (pcs s).length=n at *;generalize ((pcs s).map Value.string).toArray=cs at *;go_enter Tryz.func216,Tryz.ntmps216;go_wp2_with (go_at_call 239;refine C.o.mono ?_;rintro e w' ⟨rfl,hw⟩;rw[hw]);go_ret;exact⟨rfl,rfl⟩
end Go.Proofs.YtogcbbkhnpmgeaaGreatDoor

namespace Go.Proofs.YtogcbbkhnpmgeaaGreatDoor
open Go.RowKit
def zia(s:ByteArray):ByteArray:=mkB (Lib.trimPrefix s.data.toList [47])
def zqi(s:ByteArray):Bool:=Lib.hasPrefix s.data.toList [47]
theorem yalx{s:ByteArray}(h:zqi s=false):spN s=false:=by
 unfold zqi Lib.hasPrefix at h;unfold spN
 cases hl:s.data.toList with
 | nil=>rw[yaoh hl];rfl
 | cons c l =>
  have hc:¬ c=47:=fun e=>by subst e;rw[hl]at h;simp[List.isPrefixOf]at h
  obtain⟨x,r,e,hx⟩:=yagk hl hc;rw[e]
  have:x.toList.isEmpty=false:=by
   rw[Lib.toList_data];rw[Lib.size_eq]at hx
   cases h:x.data.toList with
   | nil=>rw[h]at hx;exact absurd rfl hx
   | cons _ _=>rfl
  show(_&&(x.toList.isEmpty&&_))=false
  rw[this];simp
theorem yafu{s:ByteArray}(h:zqi s=true):spN s=(decide ((pcs (zia s)).length<=6)&&(pcs (zia s)).all nmB)/\(pcs s).drop 1=pcs (zia s):=by
 unfold zqi Lib.hasPrefix at h
 cases hl:s.data.toList with
 | nil=>rw[hl]at h;simp[List.isPrefixOf]at h
 | cons c l =>
  have hc:c=47:=by rw[hl]at h;simp[List.isPrefixOf]at h;exact h.symm
  subst hc
  have hr:zia s=mkB l:=by unfold zia Lib.trimPrefix Lib.hasPrefix;rw[hl];simp[List.isPrefixOf]
  have hp:=yafd hl;have p1:=yahh (zia s);unfold spN;rw[hp,hr];rw[hr]at p1;refine⟨?_,rfl⟩;have e1:(mkB []::pcs (mkB l)).length=(pcs (mkB l)).length+1:=rfl;rw[e1]
  have e2:decide (2<=(pcs (mkB l)).length+1/\(pcs (mkB l)).length+1<=7)=decide ((pcs (mkB l)).length<=6):=by
   by_cases q:(pcs (mkB l)).length<=6
   ·rw[decide_eq_true q,decide_eq_true (by omega)]
   ·rw[decide_eq_false q,decide_eq_false (by omega)]
  rw[e2]
  have e3:((mkB []::pcs (mkB l)).getD 0 ⟨#[]⟩).toList.isEmpty=true:=by
   show(mkB []).toList.isEmpty=true
   rw[Lib.toList_data,zhp];rfl
  rw[e3];rfl
theorem yafo(s:ByteArray):(zia s).size<=s.size:=by
 unfold zia;rw[Lib.size_eq,zhp,Lib.size_eq];unfold Lib.trimPrefix
 split
 ·rw[List.length_drop];omega
 ·exact Nat.le_refl _
theorem zqu(v:Value)(ss:List ByteArray)(w:World)(h:RdT w v ss)(hn:ss.length<=1048576)(hs:∀ k (h:k<ss.length),ss[k].size<=maxLen) :
  zC 217 #[v,.func (.func 169) #[] #[]] w fun e w'=>e=.returned (.bool (ss.all nmB))/\zB w w':=by
 obtain⟨aP,cP,rfl,_,hcP⟩:=h.shape;have HP:=zaa hcP;have HS:=zaa hs
 have SF:Hid (∀ j (h:j<ss.length),nmB ss[j]=false->ss.all nmB=false):=fun j h q=>by
  rw[List.all_eq_false];exact⟨ss[j],List.getElem_mem _,by rw[q];simp⟩
 have SA:Hid ((∀ j (h:j<ss.length),nmB ss[j]=true)->ss.all nmB=true):=fun h=>by
  rw[List.all_eq_true];intro x hx;obtain⟨j,hj,rfl⟩:=List.getElem_of_mem hx;exact h j hj
 clear h hcP hs;go_enter Tryz.func217,Tryz.ntmps217;go_wp2
 go_loopw [6,9] (fun _ i wr=>∃ k:Nat,k<=ss.length/\i=.I k/\Hid (zB w wr/\∀ j (h:j<ss.length),j<k->nmB ss[j]=true)) (fun _ i _=>ss.length-(intOf i).toNat)
 case atStart=>exact⟨0,by omega,rfl,zR,fun j h a=>absurd a (by omega)⟩
 case round =>
  obtain⟨k,hk,rfl,H⟩:=hrel;have H1:=zaa H.o.1;have hz:w.heap.size<=wr.heap.size:=H.o.1.size
  by_cases hlt:k<ss.length
  ·obtain⟨b,o,rfl,hbl,hcell⟩:=HP.o (by omega);have d0:=(H1.o.cell (p:=⟨b,o+k,none⟩) hbl).trans (hcell k hlt)
   have k0:(0:Int)<=(k:Int):=by omega
   have k1:(k:Int)<(ss.length:Int):=by omega
   have LI:=zaa (fun w1=>zhd ss[k] w1 (HS.o k hlt));have H2:Hid (∀ j (h:j<ss.length),j<k->nmB ss[j]=true):=H.o.2;clear hcell H
   cases q:nmB ss[k] with
   | true =>
    have H':Hid (∀ j (h:j<ss.length),j<k+1->nmB ss[j]=true):=fun j h a=>by
     by_cases e:j=k
     ·subst e;exact q
     ·exact H2.o j h (by omega)
    rw[q]at LI;clear q H2;generalize ss[k]=x at d0 LI;go_wp2_with fail;refine(LI.o _).mono ?_;rintro e w1 ⟨rfl,hb1⟩;have B3:=zaa (zab H1.o hb1 H1.o.size);clear hb1 d0;go_wp2
    go_roundw
    case rel=>exact⟨k+1,by omega,by go_num,B3.o,H'.o⟩
    case measure=>simp[intOf];omega
   | false =>
    have E:=zaa (SF.o k hlt q);rw[q]at LI;clear q H2;generalize ss[k]=x at d0 LI;go_wp2_with fail;refine(LI.o _).mono ?_;rintro e w1 ⟨rfl,hb1⟩;have B3:=zaa (zab H1.o hb1 H1.o.size);clear hb1 d0;go_wp2;go_ret;exact⟨zag E.o.symm,B3.o⟩
  ·have E:=zaa (SA.o (fun j h=>H.o.2 j h (by omega)));clear H;go_wp2;go_ret;exact⟨zag E.o.symm,H1.o⟩
theorem yakp(w:World)(P:List ByteArray)(h:P.length<=1048576):Row (w.alloc (.cells (zel P).toArray 9)) 9 1 w.heap.size (w.alloc (.cells (zel P).toArray 9)).heap.size (.slice (some ⟨w.heap.size,0,none⟩) P.length P.length) P.length (zel P):=by
 have:=World.ownsRow_lit (e:=9) (size:=1) (base:=w.heap.size) w (zel P).toArray P.length zL (by simp[maxLen];omega) (by simp[zel]);exact zad this
theorem zkw(s:ByteArray)(w:World) :
  zC 176 #[.string s] w fun e w'=>∃ v',e=.returned (.tuple #[v',.I (spC s)])/\Row w' 9 1 w.heap.size w'.heap.size v' (spR s).length (zel (spR s))/\zB w w':=by
 by_cases c1:65536<s.size
 ·obtain⟨E1,E2⟩:=yaic c1;rw[E1,E2]
  have c2:(s.size:Int)>65536:=by omega
  clear c1 E1 E2;go_enter Tryz.func176,Tryz.ntmps176;go_wp2;go_ret2;exact⟨_,rfl,Row.nil _ _ _ _ _,zR⟩
 have c2:¬ (s.size:Int)>65536:=by omega
 obtain⟨X1,X2⟩:=zri c1
 cases c3:znc s with
 | true =>
  obtain⟨E1,E2⟩:=yabc c3;obtain⟨E3,E4⟩:=X1 E1;rw[E3,E4,E2];have c4:(s.toList == [47])=true:=c3;clear c1 c3 E1 E2 E3 E4 X1 X2;go_enter Tryz.func176,Tryz.ntmps176;go_wp2;go_ret2;exact⟨_,rfl,Row.nil _ _ _ _ _,zR⟩
 | false =>
 have c4:(s.toList == [47])=false:=c3
 have NO:Hid (spN s=false->spC s=12/\spR s=[]):=fun h=>X2 (yatu c3 h).1
 have YES:Hid (spN s=true->spC s=0/\spR s=(pcs s).drop 1):=fun h=>by
  obtain⟨a,b⟩:=yaox c3 h;obtain⟨c,d⟩:=X1 a;exact⟨c,d.trans b⟩
 have LP:Hid (∀ w1:World,zC 215 #[.string s,.string ⟨#[47]⟩] w1 fun e w'=>e=.returned (.tuple #[.string (zia s),.bool (zqi s)])/\w'=w1):=fun w1=>zrw s ⟨#[47]⟩ w1
 have RS:=yafo s;have LS:=zaa (fun w1=>zxp (zia s) w1 (by omega));have PL:=yafq (zia s);have RW:=zaa (fun w1=>yakp w1 (pcs (zia s)) (by omega));have LE:=zaa (fun v w1 h=>zqu v (pcs (zia s)) w1 h (by omega) (fun k hk=>by have:=yaai (zia s) k hk;unfold maxLen;omega));have AN:=zaa (fun h=>yalx (s:=s) h);have AY:=zaa (fun h=>yafu (s:=s) h);have BE:=zaa (fun w1:World=>(Below.refl w1.heap.size w1).alloc zL (.cells (zel (pcs (zia s))).toArray 9));clear c1 c3 X1 X2;generalize spC s=sc at *;generalize spR s=sr at *;generalize spN s=sn at *;generalize (pcs s).drop 1=P1 at *;generalize hRS:zia s=R at *;generalize zqi s=ah at *;generalize pcs R=P at *;clear hRS
 cases ah with
 | false =>
  obtain⟨e1,e2⟩:=NO.o (AN.o rfl);subst e1 e2;clear NO YES AN AY LE RW;go_enter Tryz.func176,Tryz.ntmps176;go_wp2_with fail;refine(LP.o _).mono ?_;rintro e w1 ⟨rfl,hw1⟩;subst w1;go_wp2_with fail;refine(LS.o _).mono ?_;rintro e w1 ⟨rfl,hw1⟩;have B1:=zaa (BE.o w);rw[<- hw1]at B1;clear hw1;go_wp2;go_ret2;exact⟨_,rfl,Row.nil _ _ _ _ _,B1.o⟩
 | true =>
 obtain⟨a1,a2⟩:=AY.o rfl;have A1:=zaa a1;rw[a2]at YES;clear a2 AY
 by_cases n1:P.length<=6
 case neg =>
  obtain⟨e1,e2⟩:=NO.o (by rw[A1.o,decide_eq_false n1];rfl)
  have n2:(P.length:Int)>6:=by omega
  subst e1 e2;clear NO YES AN LE RW A1 a1;go_enter Tryz.func176,Tryz.ntmps176;go_wp2_with fail;refine(LP.o _).mono ?_;rintro e w1 ⟨rfl,hw1⟩;subst w1;go_wp2_with fail;refine(LS.o _).mono ?_;rintro e w1 ⟨rfl,hw1⟩;have B1:=zaa (BE.o w);rw[<- hw1]at B1;clear hw1;go_wp2;go_ret2;exact⟨_,rfl,Row.nil _ _ _ _ _,B1.o⟩
 have n2:¬ (P.length:Int)>6:=by omega
 have A2:Hid (sn=P.all nmB):=by unfold Hid;rw[A1.o,decide_eq_true n1];rfl
 clear A1 a1
 cases c5:P.all nmB with
 | false =>
  obtain⟨e1,e2⟩:=NO.o (by rw[A2.o,c5]);rw[c5]at LE;subst e1 e2;clear NO YES AN A2 c5;go_enter Tryz.func176,Tryz.ntmps176;go_wp2_with fail;refine(LP.o _).mono ?_;rintro e w1 ⟨rfl,hw1⟩;subst w1;go_wp2_with fail;refine(LS.o _).mono ?_;rintro e w1 ⟨rfl,hw1⟩;have B1:=zaa (BE.o w);have R1:=zaa (RW.o w);rw[<- hw1]at B1 R1;clear hw1 RW BE;go_wp2_with fail;refine(LE.o _ _ R1.o.rd).mono ?_;rintro e w2 ⟨rfl,hb2⟩;have B2:=zaa (zab B1.o hb2 B1.o.size);clear hb2;go_wp2;go_ret2;exact⟨_,rfl,Row.nil _ _ _ _ _,B2.o⟩
 | true =>
  obtain⟨e1,e2⟩:=YES.o (by rw[A2.o,c5]);rw[c5]at LE;subst e1 e2;clear NO YES AN A2 c5;go_enter Tryz.func176,Tryz.ntmps176;go_wp2_with fail;refine(LP.o _).mono ?_;rintro e w1 ⟨rfl,hw1⟩;subst w1;go_wp2_with fail;refine(LS.o _).mono ?_;rintro e w1 ⟨rfl,hw1⟩;have B1:=zaa (BE.o w);have R1:=zaa (RW.o w);rw[<- hw1]at B1 R1;clear hw1 RW BE;go_wp2_with fail;refine(LE.o _ _ R1.o.rd).mono ?_;rintro e w2 ⟨rfl,hb2⟩;have B2:=zaa (zab B1.o hb2 B1.o.size);have R2:=zaa ((R1.o.below hb2 zL).wide zL hb2.size);clear hb2;go_wp2;go_ret2;exact⟨_,rfl,R2.o,B2.o⟩
end Go.Proofs.YtogcbbkhnpmgeaaGreatDoor
