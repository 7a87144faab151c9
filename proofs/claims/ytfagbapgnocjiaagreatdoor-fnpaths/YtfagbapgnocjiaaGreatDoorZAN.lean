import Derived.Laws.Cover3
import Derived.Test.YtfagbapgnocjiaaGreatDoorZAR
import Derived.Deep.LoopGhost
set_option maxRecDepth 100000
set_option maxHeartbeats 4000000
namespace Go.Proofs.YtfagbapgnocjiaaGreatDoor
open Go.RowKit
@[go_sem] theorem yask(a:Option Addr)(l c:Nat)(w:World):(binOp .eql 24 (.slice a l c) (.N)).run Tryz.prog w=.ok (.bool a.isNone) w:=by
 simp only[binOp];simp[run_equal_slice_nil w 24 52 a l c Tryz.underlying24]
theorem zuf(v:Value)(ps:List Den)(w:World)(h:RdD w v ps)(hn:ps.length<=4096) :
  zC 72 #[v] w fun e w'=>∃ v',e=.returned v'/\Row w' 52 3 w.heap.size w'.heap.size v' ps.length (dens ps)/\zB w w':=by
 have HR:=zaa h;obtain⟨ao,cap,rfl,_,hc⟩:=h.shape;clear h
 cases ao with
 | none =>
  have hl:ps.length=0:=by
   rcases Nat.eq_zero_or_pos ps.length with e | e
   ·exact e
   ·obtain⟨b,o,e1,_⟩:=hc e
    cases e1
  have hps:ps=[]:=List.eq_nil_of_length_eq_zero hl;subst hps;clear hc hl;go_enter Tryz.func72,Tryz.ntmps72;go_wp2;go_ret;exact⟨_,rfl,Row.nil _ _ _ _ _,zR⟩
 | some a =>
  have BB:=zaa ((Below.refl w.heap.size w).alloc zL (.cells #[] 52));have OB:=zaa (World.ownsRow_lit (e:=52) (size:=3) w #[] 0 zL (by simp[maxLen]) (by simp));have RB:Hid (Rd (w.alloc (.cells #[] 52)) 3 (.slice (some a) ps.length cap) ps.length (dens ps)):=Rd.below HR.o BB.o;have hz:w.heap.size<=(w.alloc (.cells #[] 52)).heap.size:=BB.o.size;clear hc;go_enter Tryz.func72,Tryz.ntmps72;go_wp2_with (at_builtin;refine zaf _ rfl (.tmp 5) (.tmp 6) 24 rfl w.heap.size 52 (.agg #[.I 0,.string ⟨#[]⟩,.I 0]) 3 32 Tryz.underlying24 zrh rfl (by decide) _ 0 [] rfl OB.o _ ps.length (dens ps) rfl RB.o (zis _) (by simp[maxLen];omega) (by omega) hz ?_);intro vN wN hownN hgrN;have ON:=zaa hownN;have BN:=zaa (BB.o.grown hgrN hz (fun q hq=>(OB.o.lt q hq).1));clear hownN hgrN;obtain⟨-,aL,cL,hvL,-⟩:=(zac ON.o).rd;subst hvL;go_wp2;go_ret;exact⟨_,rfl,zac ON.o,BN.o⟩
def zfu(ds:List Den)(k:Nat):List Den:=(ds.take k).map zhp++ds.drop k
theorem zqb(ds:List Den)(k:Nat):(zfu ds k).length=ds.length:=by
 unfold zfu;rw[List.length_append,List.length_map,List.length_take,List.length_drop];omega
theorem zxi(ds:List Den):zfu ds 0=ds:=by simp[zfu]
theorem yacf(ds:List Den):zfu ds ds.length=ds.map zhp:=by simp[zfu]
theorem zyg{ds:List Den}{k:Nat}(h:k<ds.length):(dens (zfu ds k)).set (k*3+2) (.I (-1))=dens (zfu ds (k+1)):=by
 have e1:ds.drop k=ds[k]::ds.drop (k+1):=List.drop_eq_getElem_cons h
 have l1:(dens ((ds.take k).map zhp)).length=k*3:=by rw[ziy,List.length_map,List.length_take];congr 1;omega
 unfold zfu;rw[e1,List.take_succ_eq_append_getElem h,List.map_append,ziv,ziv,ziv,List.set_append_right _ _ (by omega),l1,List.append_assoc]
 congr 1
 rw[show k*3+2-k*3=2 by omega];rfl
theorem yadr(ps:List Den)(k:Nat)(h:k<ps.length):(dens ps)[k*3+2]?=some (.I ps[k].child):=zbe _ 3 Den.cells_len ps k 2 h (by omega)
theorem zra(v:Value)(ds:List Den)(w:World)(h:RdD w v ds)(hn:ds.length<=4096) :
  zC 37 #[v] w fun e w'=>e=.returned (.bool (zmq (ds.map zhp)))/\zB w w':=by
 have HR:=zaa h;obtain⟨ao,cap,rfl,_,_⟩:=h.shape;clear h;go_enter Tryz.func37,Tryz.ntmps37;go_wp2_with fail;refine(zuf _ ds _ HR.o hn).mono ?_;rintro e w1 ⟨vN,rfl,hr1,hb1⟩;obtain⟨-,aN,cN,hvN,-⟩:=hr1.rd;subst hvN;have R1:=zaa hr1;have B1:=zaa hb1;have hz1:w.heap.size<=w1.heap.size:=hb1.size;clear hr1 hb1;go_wp2
 go_loopw [4,9] (fun _ i wr=>∃ k:Nat,k<=ds.length/\i=.I k/\Hid (Row wr 52 3 w.heap.size w1.heap.size (.slice aN ds.length cN) ds.length (dens (zfu ds k))/\zB w wr)) (fun _ i _=>ds.length-(intOf i).toNat)
 case atStart=>exact⟨0,by omega,rfl,by rw[zxi];exact R1.o,B1.o⟩
 case round =>
  obtain⟨k,hk,rfl,H⟩:=hrel
  by_cases hlt:k<ds.length
  ·rcases Row.shape H.o.1 with ⟨_,e,_⟩ | ⟨b,cap',e,_,_⟩
   ·exact absurd e (by omega)
   obtain⟨rfl,rfl⟩:aN=some ⟨b,0,none⟩/\cN=cap':=by cases e;exact⟨rfl,rfl⟩
   obtain⟨_,l1,l2,l3,fr,ce⟩:=Row.at H.o.1;have f0:=fr (k*3+2);have c0:=(ce (k*3+2) (by omega)).trans (yadr (zfu ds k) k (by rw[zqb];exact hlt))
   have k0:(0:Int)<=(k:Int):=by omega
   have k1:(k:Int)<(ds.length:Int):=by omega
   have G:Hid (Row (wr.setCell ⟨b,k*3+2,none⟩ (.I (-1))) 52 3 w.heap.size w1.heap.size (.slice (some ⟨b,0,none⟩) ds.length cN) ds.length (dens (zfu ds (k+1)))/\zB w (wr.setCell ⟨b,k*3+2,none⟩ (.I (-1)))):=by
    refine⟨?_,H.o.2.setCell l1 _⟩;rw[<- zyg hlt];exact Row.stored H.o.1 _ _
   clear H fr ce R1 e;generalize ((zfu ds k)[k]'(by rw[zqb];exact hlt)).child=z at c0;go_wp2
   go_roundw
   case rel=>exact⟨k+1,by omega,by go_num,G⟩
   case measure=>simp[intOf];omega
  ·obtain rfl:k=ds.length:=by omega
   have LA:=zaa (yacf ds);rw[LA.o]at H
   have R2:Hid (RdD wr (.slice aN ds.length cN) (ds.map zhp)):=by
    unfold Hid RdD;rw[List.length_map];exact H.o.1.rd
   have B2:=zaa H.o.2
   have hl:(ds.map zhp).length<=1048576:=by rw[List.length_map];omega
   have HL:=zaa hl;clear H hl;go_wp2_with fail;refine(zlc _ (ds.map zhp) _ R2.o HL.o).mono ?_;rintro e w2 ⟨rfl,hb2⟩;have B3:=zaa (zab B2.o hb2 B2.o.size);clear hb2;go_wp2;go_ret;exact⟨rfl,B3.o⟩
theorem yalu{ws:List Ino}{ts:List Den}(h:∀ k (h:k<ts.length),fitB ws ts[k]=true):zoz ws ts=true:=decide_eq_true h
theorem yafk{ws:List Ino}{ts:List Den}{k:Nat}(hk:k<ts.length)(h:fitB ws ts[k]=false):zoz ws ts=false:=decide_eq_false (fun x=>by have:=x k hk;rw[h]at this;cases this)
theorem zvz(vW v:Value)(ws:List Ino)(ts:List Den)(w:World)(hw:RdN w vW ws)(h:RdD w v ts)(hl:ws.length=16)(hn:ts.length<=4096)(hT:∀ k (h:k<ts.length),(0<=ts[k].child/\ts[k].child<=15)/\(0<=ts[k].dir/\ts[k].dir<=15)) :
  zC 36 #[vW,v] w fun e w'=>e=.returned (.bool (zoz ws ts))/\zB w w':=by
 obtain⟨aW,cW,rfl,_,hcW⟩:=hw.shape;obtain⟨aP,cP,rfl,_,hcP⟩:=h.shape;have HW:=zaa hcW;have HP:=zaa hcP;have HT:=zaa hT;have HL:=zaa hl
 have hl':(16:Int)<=(ws.length:Int):=by omega
 clear h hw hcW hcP hT hl;go_enter Tryz.func36,Tryz.ntmps36;go_wp2
 go_loopw [6,9] (fun _ i wr=>∃ k:Nat,k<=ts.length/\i=.I k/\Hid (zB w wr/\∀ j (h:j<ts.length),j<k->fitB ws ts[j]=true)) (fun _ i _=>ts.length-(intOf i).toNat)
 case atStart=>exact⟨0,by omega,rfl,zR,fun j h a=>absurd a (by omega)⟩
 case round =>
  obtain⟨k,hk,rfl,H⟩:=hrel;have H1:=zaa H.o.1;have hz:w.heap.size<=wr.heap.size:=H.o.1.size
  by_cases hlt:k<ts.length
  ·obtain⟨b,o,rfl,hbl,hcell⟩:=HP.o (by omega);obtain⟨bW,oW,rfl,hblW,hcellW⟩:=HW.o (by have:=HL.o;omega);obtain⟨a0,a1,a2⟩:=hcell k hlt;have d0:=(H1.o.cell (p:=⟨b,o+k*3,none⟩) hbl).trans a0;have d1:=(H1.o.cell (p:=⟨b,o+k*3+1,none⟩) hbl).trans a1;have d2:=(H1.o.cell (p:=⟨b,o+k*3+2,none⟩) hbl).trans a2
   have k0:(0:Int)<=(k:Int):=by omega
   have k1:(k:Int)<(ts.length:Int):=by omega
   obtain⟨⟨c1,c2⟩,c3,c4⟩:=HT.o k hlt
   have H2:Hid (fitB ws ts[k]=true->∀ j (h:j<ts.length),j<k+1->fitB ws ts[j]=true):=fun q j h a=>by
    by_cases e:j=k
    ·subst e;exact q
    ·exact H.o.2 j h (by omega)
   have H3:=zaa (fun q=>yafk (ws:=ws) hlt q);clear a0 a1 a2 hcell H;generalize ts[k]=x at *;obtain⟨xd,xs,xc⟩:=x;simp only at d0 d1 d2 c1 c2 c3 c4
   obtain⟨d,rfl⟩:∃ d:Nat,xd=(d:Int):=⟨xd.toNat,by omega⟩
   obtain⟨c,rfl⟩:∃ c:Nat,xc=(c:Int):=⟨xc.toNat,by omega⟩
   have hd:d<ws.length:=by omega
   have hc:c<ws.length:=by omega
   have B2:=zaa (H1.o.alloc hz (.cells #[.I (d:Int),.string xs,.I (c:Int)] 52));have g0:=(B2.o.cell (p:=⟨bW,oW+d*11,none⟩) hblW).trans (hcellW d hd).1;have g1:=(B2.o.cell (p:=⟨bW,oW+c*11,none⟩) hblW).trans (hcellW c hc).1;have FB:=zaa (show fitB ws ⟨(d:Int),xs,(c:Int)⟩=(ws[d].kind == 2&&!(ws[c].kind == 0)) by unfold fitB;rw[zbc hd,zbc hc])
   have d5:(d:Int)<(ws.length:Int):=by omega
   have c5:(c:Int)<(ws.length:Int):=by omega
   clear hcellW;generalize ws[d].kind=kd at g0 FB;generalize ws[c].kind=kc at g1 FB
   by_cases q:kd=2
   ·have q1:(kd != 2)=false:=by rw[q];rfl
    by_cases r:kc=0
    ·have r1:(kc == 0)=true:=by rw[r];rfl
     have E:=zaa (H3.o (by rw[FB.o,r1];simp));clear q r H2 H3 FB;go_wp2;go_ret;exact⟨zah E.o.symm,B2.o⟩
    ·have r1:(kc == 0)=false:=by rw[beq_eq_false_iff_ne];exact r
     have E:=zaa (H2.o (by rw[FB.o,r1,q];rfl));clear q r H2 H3 FB;go_wp2
     go_roundw
     case rel=>exact⟨k+1,by omega,by go_num,B2.o,E.o⟩
     case measure=>simp[intOf];omega
   ·have q1:(kd != 2)=true:=by rw[bne_iff_ne];exact q
    have E:=zaa (H3.o (by rw[FB.o,show(kd == 2)=false by rw[beq_eq_false_iff_ne];exact q];rfl));clear q H2 H3 FB;go_wp2;go_ret;exact⟨zah E.o.symm,B2.o⟩
  ·have E:=zaa (yalu (ws:=ws) (fun j h=>H.o.2 j h (by omega)));clear H;go_wp2;go_ret;exact⟨zah E.o.symm,H1.o⟩
theorem yahc(s:ByteArray)(k:Nat)(h:k<s.size):s.data.toList[k]'(by rw[<- Lib.size_eq];exact h)=s[k]:=by
 rw[Array.getElem_toList];rfl
theorem yaha(c:UInt8):((c.toNat:Int) == 47)=decide (c=47):=by
 by_cases h:c=47
 ·subst h;rfl
 ·rw[decide_eq_false h,beq_eq_false_iff_ne];intro e;apply h;apply UInt8.toNat_inj.1
  show c.toNat=47
  omega
theorem yafm(l:List UInt8):zhr [] l=[]++zhr ((l.take 0).drop 0) (l.drop 0):=by simp
theorem yaot{l:List UInt8}{ds:List (List UInt8)}{k f:Nat}(hk:k<l.length)(h:zhr [] l=ds++zhr ((l.take k).drop f) (l.drop k))(hc:l[k]=47) :
  zhr [] l=(ds++[(l.take k).drop f])++zhr ((l.take (k+1)).drop (k+1)) (l.drop (k+1)):=by
 rw[List.drop_eq_getElem_cons hk,zcn,if_pos hc]at h;rw[h,List.append_assoc,List.drop_of_length_le (l:=l.take (k+1)) (by rw[List.length_take];omega)];rfl
theorem yasp{l:List UInt8}{ds:List (List UInt8)}{k f:Nat}(hk:k<l.length)(hf:f<=k)(h:zhr [] l=ds++zhr ((l.take k).drop f) (l.drop k))(hc:¬ l[k]=47) :
  zhr [] l=ds++zhr ((l.take (k+1)).drop f) (l.drop (k+1)):=by
 rw[List.drop_eq_getElem_cons hk,zcn,if_neg hc]at h;rw[h,List.take_succ_eq_append_getElem hk,List.drop_append_of_le_length (by rw[List.length_take];omega)]
theorem yaqg{s:ByteArray}{ds:List (List UInt8)}{f:Nat}(h:zhr [] s.data.toList=ds++zhr ((s.data.toList.take s.size).drop f) (s.data.toList.drop s.size)):pcs s=ds.map mkB++[s.extract f s.size]:=by
 unfold pcs;rw[h,List.drop_of_length_le (l:=s.data.toList) (by rw[<- Lib.size_eq];exact Nat.le_refl _),ziw,List.map_append]
 show ds.map mkB++[mkB _]=_
 rw[znt]
theorem yacy(s:ByteArray)(w:World)(hs:s.size<=65536) :
  zC 185 #[.string s,.int .u8 47] w fun e w'=>∃ v',e=.returned v'/\Row w' 9 1 w.heap.size w'.heap.size v' (pcs s).length (zcs (pcs s))/\zB w w':=by
 have START:Hid (SnI w (w.alloc (.cells #[] 9)) (.slice (some ⟨w.heap.size,0,none⟩) 0 0) []):=⟨World.ownsRow_lit w #[] 0 zL (by simp[maxLen]) (by simp),zR.alloc zL _⟩
 have HL:=zaa (Lib.size_eq s);go_enter Tryz.func185,Tryz.ntmps185;go_wp2
 go_loopg [5,6,7] s.size (fun g vL fr i wr=>∃ (k f:Nat) (ds:List (List UInt8)),k+g=s.size/\f<=k/\fr=.I f/\i=.I k/\vL≠.N/\ds.length<=k/\Hid (SnI w wr vL (ds.map mkB)/\zhr [] s.data.toList=ds++zhr ((s.data.toList.take k).drop f) (s.data.toList.drop k)))
 case atStart=>exact⟨0,0,[],by omega,by omega,rfl,rfl,(fun e=>by cases e),Nat.le_refl _,START.o,yafm _⟩
 case round =>
  obtain⟨k,f,ds,hkg,hf,rfl,rfl,hv,hd,I⟩:=hrel;clear START
  have k0:(0:Int)<=(k:Int):=by omega
  have f0:(0:Int)<=(f:Int):=by omega
  have fk:(f:Int)<=(k:Int):=by omega
  have DL:(ds.map mkB).length=ds.length:=List.length_map ..
  by_cases hlt:k<s.size
  ·have k1:(k:Int)<(s.size:Int):=by omega
   have k2:(k:Int)<=(s.size:Int):=by omega
   have hkl:k<s.data.toList.length:=by rw[<- HL.o];exact hlt
   by_cases c:s[k]=47
   ·have q:((s[k].toNat:Int) == 47)=true:=by rw[yaha,decide_eq_true c]
    have N:=zaa (yaot hkl I.o.2 (by rw[yahc s k hlt];exact c))
    have MN:Hid ((ds++[(s.data.toList.take k).drop f]).map mkB=ds.map mkB++[s.extract f k]):=by unfold Hid;rw[List.map_append,<- znt];rfl
    have JB:Hid (SnI w (wr.alloc (.cells #[.string (s.extract f k)] 9)) u5 (ds.map mkB)):=I.o.1.below (zR.alloc zL _);have RB:=zaa (zfw wr (s.extract f k));have hzb:=JB.o.z;simp only[World.size_alloc]at hzb;clear I c;go_wp2_with (at_builtin;refine zaf _ rfl (.tmp 20) (.tmp 25) 28 rfl w.heap.size 9 (.string ⟨#[]⟩) 1 16 Tryz.underlying28 zdu rfl (by decide) _ _ _ rfl JB.o.l _ 1 _ rfl RB.o (zbb _) (by simp[maxLen];omega) (by simp;omega) JB.o.z ?_);intro vN wN hownN hgrN;have G:=zaa (JB.o.grow [s.extract f k] rfl (by rw[List.length_map];exact hownN) hgrN);rw[<- MN.o]at G;have hv2:=zaa (G.o.some_ (by simp));clear hownN hgrN JB RB q MN hv;go_wp2
    go_roundg (s.size-(k+1))
    case measure=>omega
    case rel=>exact⟨k+1,k+1,ds++[(s.data.toList.take k).drop f],by omega,Nat.le_refl _,by go_num,by go_num,hv2.o,by simp;omega,G.o,N.o⟩
   ·have q:((s[k].toNat:Int) == 47)=false:=by rw[yaha,decide_eq_false c]
    have N:=zaa (yasp hkl hf I.o.2 (by rw[yahc s k hlt];exact c));have I1:=zaa I.o.1;have HV:=zaa hv;clear I c DL hv;go_wp2
    go_roundg (s.size-(k+1))
    case measure=>omega
    case rel=>exact⟨k+1,f,ds,by omega,by omega,rfl,by go_num,HV.o,by omega,I1.o,N.o⟩
  ·obtain rfl:k=s.size:=by omega
   have MN:=zaa (yaqg I.o.2);have JB:Hid (SnI w (wr.alloc (.cells #[.string (s.extract f s.size)] 9)) u5 (ds.map mkB)):=I.o.1.below (zR.alloc zL _);have RB:=zaa (zfw wr (s.extract f s.size));have hzb:=JB.o.z;simp only[World.size_alloc]at hzb;clear I;go_wp2_with (at_builtin;refine zaf _ rfl (.tmp 29) (.tmp 33) 28 rfl w.heap.size 9 (.string ⟨#[]⟩) 1 16 Tryz.underlying28 zdu rfl (by decide) _ _ _ rfl JB.o.l _ 1 _ rfl RB.o (zbb _) (by simp[maxLen];omega) (by simp;omega) JB.o.z ?_);intro vN wN hownN hgrN;have G:=zaa (JB.o.grow [s.extract f s.size] rfl (by rw[List.length_map];exact hownN) hgrN);rw[<- MN.o]at G;clear hownN hgrN JB RB MN hv;go_wp2;go_ret;exact⟨_,rfl,zac G.o.l,G.o.b⟩
end Go.Proofs.YtfagbapgnocjiaaGreatDoor

namespace Go.Proofs.YtfagbapgnocjiaaGreatDoor
open Go.ChangeShapes Go.WideShapes Go.ChangeAt Go.RowKit Go.Joins
theorem yarf:Tryz.prog.cellsOf 5=1:=by kernel_rfl
section
variable {H:Type} {enc:TypeId×Value->H} {W:World} {sp:Nat->Bool} {held:Bool} {fuel:Nat} {v:Value} {y:DataW H×List MemPlace}
theorem yatn{z:Int}(h:(Lit.int .u8 z).wf=true):0<=z/\z<256:=by
 have h1:IntKind.u8.min<=z/\z<=IntKind.u8.max:=by simpa[Lit.wf]using h
 have a:IntKind.u8.min=0:=by rfl
 have b:IntKind.u8.max=255:=by rfl
 omega
theorem yala(h:DataW.trod enc Tryz.prog W 0 sp held fuel 22 [v]=some y):∃ zs:List Int,RdB W v zs/\zs.length<=maxLen:=by
 rcases open_ints Tryz.underlying22 Tryz.underlying5 yarf h with ⟨hcs,_⟩ | ⟨a,len,cap,zs,hcs,_,hl,hm,hz,_,hcell,hwz⟩
 ·simp only[List.cons.injEq,and_true]at hcs;subst hcs;exact⟨[],⟨⟨rfl,none,0,rfl,⟨Nat.le_refl _,fun _=>rfl⟩,fun h=>absurd h (by simp)⟩,fun k hk=>by simp at hk⟩,by simp⟩
 ·simp only[List.cons.injEq,and_true]at hcs;subst hcs
  have hzl:len<=zs.length:=by rw[hz];split<;>omega
  have e:(zs.take len).length=len:=by simp;omega
  refine⟨zs.take len,⟨⟨by simp[bys],some a,cap,by rw[e],⟨by rw[e];exact hl,fun e=>by cases e⟩,fun hn=>?_⟩,fun k hk=>yatn (hwz _ (List.mem_of_mem_take (List.getElem_mem hk)))⟩,by rw[e];omega⟩;rw[e]at hn;obtain⟨b,off,spot⟩:=a;have hc:=hcell 0 (by omega)
  have hspot:spot=none:=by simpa[Addr.add]using World.cell?_spot hc
  subst hspot;refine⟨b,off,rfl,World.block_lt_of_cell? W _ (by simpa[Addr.add]using hc),fun j hj=>?_⟩;rw[e]at hj;have hc:=hcell j (by omega);rw[Addr.add_lit]at hc;rw[hc,yanv _ j (by rw[e];omega)];simp[List.getD,show j<zs.length by omega]
end
end Go.Proofs.YtfagbapgnocjiaaGreatDoor

namespace Go.Proofs.YtfagbapgnocjiaaGreatDoor
open Go.RowKit
theorem zow(va vb:Value)(ss:List ByteArray)(w:World)(ha:RdT w va ss)(hb:RdT w vb ss)(hn:ss.length<=2147483648) :
  zC 8 #[va,vb] w fun e w'=>e=.returned (.bool true)/\zB w w':=by
 obtain⟨ao,cap,rfl,hcap,hc⟩:=ha.shape;obtain⟨ao2,cap2,rfl,hcap2,hc2⟩:=hb.shape;clear ha hb;go_enter Tryz.func8,Tryz.ntmps8;go_wp2
 go_loopw [5] (fun i wr=>∃ k:Nat,k<=ss.length/\i=.I k/\zB w wr) (fun i _=>ss.length-(intOf i).toNat)
 case atStart=>exact⟨0,by omega,rfl,zR⟩
 case round =>
  obtain⟨k,hk,rfl,hbw⟩:=hrel
  by_cases hlt:k<ss.length
  ·obtain⟨b,o,rfl,hbl,hcell⟩:=hc (by omega);obtain⟨b2,o2,rfl,hbl2,hcell2⟩:=hc2 (by omega);have hck:wr.cell? ⟨b,o+k,none⟩=some (.string ss[k]):=(hbw.cell (p:=⟨b,o+k,none⟩) hbl).trans (hcell k hlt);have hck2:wr.cell? ⟨b2,o2+k,none⟩=some (.string ss[k]):=(hbw.cell (p:=⟨b2,o2+k,none⟩) hbl2).trans (hcell2 k hlt)
   have hlt':(k:Int)<(ss.length:Int):=by omega
   have hge:(0:Int)<=(k:Int):=by omega
   clear hcell hcell2 hc hc2;generalize ss[k]=x at hck hck2;go_wp2
   go_quiet (fail)
   go_wp2
   go_roundw
   case rel=>exact⟨k+1,by omega,by go_num,zgq hbw _⟩
   case measure=>simp[intOf];omega
  ·go_wp2;go_ret;exact⟨rfl,hbw⟩
end Go.Proofs.YtfagbapgnocjiaaGreatDoor
