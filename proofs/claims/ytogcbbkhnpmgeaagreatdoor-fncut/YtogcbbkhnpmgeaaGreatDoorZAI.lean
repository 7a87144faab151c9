import Derived.Test.YtogcbbkhnpmgeaaGreatDoorZAG
import Derived.Laws.Cover3
set_option maxRecDepth 100000
set_option maxHeartbeats 4000000
namespace Go.Proofs.YtogcbbkhnpmgeaaGreatDoor
open Go.RowKit
def zwo(ws:List Ino):Bool:=decide (∀ k (h:k<ws.length),zdp ws[k]=true)
theorem yady{ws:List Ino}(h:∀ k (h:k<ws.length),zdp ws[k]=true):zwo ws=true:=decide_eq_true h
theorem yaaa{ws:List Ino}{k:Nat}(hk:k<ws.length)(h:zdp ws[k]=false):zwo ws=false:=decide_eq_false (fun x=>by have:=x k hk;rw[h]at this;cases this)
theorem yasg{ps:List Den}(h:∀ k (h:k<ps.length),ps[k].okB=true):okDs ps=true:=decide_eq_true h
theorem yant{ps:List Den}{k:Nat}(hk:k<ps.length)(h:ps[k].okB=false):okDs ps=false:=decide_eq_false (fun x=>by have:=x k hk;rw[h]at this;cases this)
theorem zpu(v:Value)(ws:List Ino)(w:World)(h:RdN w v ws)(hn:ws.length<=1048576)(hT:TS w)(hE:ED w)(hr:∀ k (h:k<ws.length),ws[k].R) :
  zC 112 #[v,.func (.func 113) #[] #[]] w fun e w'=>e=.returned (.bool (zwo ws))/\zB w w':=by
 obtain⟨aW,cW,rfl,_,hcW⟩:=h.shape;have HW:=zaa hcW;have T:=zaa hT;have E0:=zaa hE;have HR:=zaa hr;clear h hcW hT hE hr;go_enter Tryz.func112,Tryz.ntmps112;go_wp2
 go_loopw [6,9] (fun _ i wr=>∃ k:Nat,k<=ws.length/\i=.I k/\Hid (zB w wr/\∀ j (h:j<ws.length),j<k->zdp ws[j]=true)) (fun _ i _=>ws.length-(intOf i).toNat)
 case atStart=>exact⟨0,by omega,rfl,zR,fun j h a=>absurd a (by omega)⟩
 case round =>
  obtain⟨k,hk,rfl,H⟩:=hrel;have H1:=zaa H.o.1;have hz:w.heap.size<=wr.heap.size:=H.o.1.size
  by_cases hlt:k<ws.length
  ·obtain⟨b,o,rfl,hbl,hcell⟩:=HW.o (by omega);obtain⟨a0,a1,a2,a3,a4,a5,a6,a7,a8,a9,a10⟩:=hcell k hlt;have d0:=(H1.o.cell (p:=⟨b,o+k*11,none⟩) hbl).trans a0;have d1:=(H1.o.cell (p:=⟨b,o+k*11+1,none⟩) hbl).trans a1;have d2:=(H1.o.cell (p:=⟨b,o+k*11+2,none⟩) hbl).trans a2;have d3:=(H1.o.cell (p:=⟨b,o+k*11+3,none⟩) hbl).trans a3;have d4:=(H1.o.cell (p:=⟨b,o+k*11+4,none⟩) hbl).trans a4;have d5:=(H1.o.cell (p:=⟨b,o+k*11+5,none⟩) hbl).trans a5;have d6:=(H1.o.cell (p:=⟨b,o+k*11+6,none⟩) hbl).trans a6;have d7:=(H1.o.cell (p:=⟨b,o+k*11+7,none⟩) hbl).trans a7;have d8:=(H1.o.cell (p:=⟨b,o+k*11+8,none⟩) hbl).trans a8;have d9:=(H1.o.cell (p:=⟨b,o+k*11+9,none⟩) hbl).trans a9;have d10:=(H1.o.cell (p:=⟨b,o+k*11+10,none⟩) hbl).trans a10
   have k0:(0:Int)<=(k:Int):=by omega
   have k1:(k:Int)<(ws.length:Int):=by omega
   have B2:=zaa (H1.o.alloc hz (.cells ws[k].cs.toArray 87));have LI:=zaa (fun w1 (h:zB w w1)=>zyk ws[k] w1 (T.o.below h) (E0.o.below h) (HR.o k hlt));have H2:Hid (∀ j (h:j<ws.length),j<k->zdp ws[j]=true):=H.o.2;clear a0 a1 a2 a3 a4 a5 a6 a7 a8 a9 a10 hcell H
   cases q:zdp ws[k] with
   | true =>
    have H':Hid (∀ j (h:j<ws.length),j<k+1->zdp ws[j]=true):=fun j h a=>by
     by_cases e:j=k
     ·subst e;exact q
     ·exact H2.o j h (by omega)
    rw[q]at LI;clear q H2;generalize ws[k]=x at d0 d1 d2 d3 d4 d5 d6 d7 d8 d9 d10 B2 LI;go_wp2_with fail;refine(LI.o _ B2.o).mono ?_;rintro e w1 ⟨rfl,hb1⟩;have B3:=zaa (zab B2.o hb1 B2.o.size);clear hb1 d0 d1 d2 d3 d4 d5 d6 d7 d8 d9 d10;go_wp2
    go_roundw
    case rel=>exact⟨k+1,by omega,by go_num,B3.o,H'.o⟩
    case measure=>simp[intOf];omega
   | false =>
    have E:=zaa (yaaa hlt q);rw[q]at LI;clear q H2;generalize ws[k]=x at d0 d1 d2 d3 d4 d5 d6 d7 d8 d9 d10 B2 LI;go_wp2_with fail;refine(LI.o _ B2.o).mono ?_;rintro e w1 ⟨rfl,hb1⟩;have B3:=zaa (zab B2.o hb1 B2.o.size);clear hb1 d0 d1 d2 d3 d4 d5 d6 d7 d8 d9 d10;go_wp2;go_ret;exact⟨zag E.o.symm,B3.o⟩
  ·have E:=zaa (yady (fun j h=>H.o.2 j h (by omega)));clear H;go_wp2;go_ret;exact⟨zag E.o.symm,H1.o⟩
theorem znt(v:Value)(ps:List Den)(w:World)(h:RdD w v ps)(hn:ps.length<=1048576)(hF:FD w)(hs:∀ k (h:k<ps.length),ps[k].name.size<=maxLen) :
  zC 114 #[v,.func (.func 115) #[] #[]] w fun e w'=>e=.returned (.bool (okDs ps))/\zB w w':=by
 obtain⟨aP,cP,rfl,_,hcP⟩:=h.shape;have HP:=zaa hcP;have F:=zaa hF;have HS:=zaa hs;clear h hcP hF hs;go_enter Tryz.func114,Tryz.ntmps114;go_wp2
 go_loopw [6,9] (fun _ i wr=>∃ k:Nat,k<=ps.length/\i=.I k/\Hid (zB w wr/\∀ j (h:j<ps.length),j<k->ps[j].okB=true)) (fun _ i _=>ps.length-(intOf i).toNat)
 case atStart=>exact⟨0,by omega,rfl,zR,fun j h a=>absurd a (by omega)⟩
 case round =>
  obtain⟨k,hk,rfl,H⟩:=hrel;have H1:=zaa H.o.1;have hz:w.heap.size<=wr.heap.size:=H.o.1.size
  by_cases hlt:k<ps.length
  ·obtain⟨b,o,rfl,hbl,hcell⟩:=HP.o (by omega);obtain⟨a0,a1,a2⟩:=hcell k hlt;have d0:=(H1.o.cell (p:=⟨b,o+k*3,none⟩) hbl).trans a0;have d1:=(H1.o.cell (p:=⟨b,o+k*3+1,none⟩) hbl).trans a1;have d2:=(H1.o.cell (p:=⟨b,o+k*3+2,none⟩) hbl).trans a2
   have k0:(0:Int)<=(k:Int):=by omega
   have k1:(k:Int)<(ps.length:Int):=by omega
   have B2:=zaa (H1.o.alloc hz (.cells #[.I ps[k].dir,.string ps[k].name,.I ps[k].child] 90));have LI:=zaa (fun w1 (h:zB w w1)=>zun ps[k] w1 (F.o.below h) (HS.o k hlt));have H2:Hid (∀ j (h:j<ps.length),j<k->ps[j].okB=true):=H.o.2;clear a0 a1 a2 hcell H
   cases q:ps[k].okB with
   | true =>
    have H':Hid (∀ j (h:j<ps.length),j<k+1->ps[j].okB=true):=fun j h a=>by
     by_cases e:j=k
     ·subst e;exact q
     ·exact H2.o j h (by omega)
    rw[q]at LI;clear q H2;generalize ps[k]=x at d0 d1 d2 B2 LI;go_wp2_with fail;refine(LI.o _ B2.o).mono ?_;rintro e w1 ⟨rfl,hb1⟩;have B3:=zaa (zab B2.o hb1 B2.o.size);clear hb1 d0 d1 d2;go_wp2
    go_roundw
    case rel=>exact⟨k+1,by omega,by go_num,B3.o,H'.o⟩
    case measure=>simp[intOf];omega
   | false =>
    have E:=zaa (yant hlt q);rw[q]at LI;clear q H2;generalize ps[k]=x at d0 d1 d2 B2 LI;go_wp2_with fail;refine(LI.o _ B2.o).mono ?_;rintro e w1 ⟨rfl,hb1⟩;have B3:=zaa (zab B2.o hb1 B2.o.size);clear hb1 d0 d1 d2;go_wp2;go_ret;exact⟨zag E.o.symm,B3.o⟩
  ·have E:=zaa (yasg (fun j h=>H.o.2 j h (by omega)));clear H;go_wp2;go_ret;exact⟨zag E.o.symm,H1.o⟩
def zgx(ws:List Ino)(ps:List Den):Bool:=decide (ws.length=16)&&(decide (ps.length=24)&&(zwo ws&&okDs ps))
theorem zyc(v:Value)(ws:List Ino)(ps:List Den)(w:World)(h:RdIm w v ws ps)(hw:ws.length<=1048576)(hp:ps.length<=1048576)(hT:TS w)(hE:ED w)(hF:FD w)(hr:∀ k (h:k<ws.length),ws[k].R)(hs:∀ k (h:k<ps.length),ps[k].name.size<=maxLen) :
  zC 58 #[v] w fun e w'=>e=.returned (.bool (zgx ws ps))/\zB w w':=by
 obtain⟨vW,vP,rfl,h1,h2⟩:=h;have RW:=zaa h1;have RP:=zaa h2;obtain⟨aW,cW,rfl,_,_⟩:=h1.shape;obtain⟨aP,cP,rfl,_,_⟩:=h2.shape;have BW:=zaa ((Below.refl w.heap.size w).alloc zL (.cells #[.slice aW ws.length cW,.slice aP ps.length cP] 51))
 have CA:Hid (∀ w',Below (w.alloc (.cells #[.slice aW ws.length cW,.slice aP ps.length cP] 51)).heap.size (w.alloc (.cells #[.slice aW ws.length cW,.slice aP ps.length cP] 51)) w'->w'.cell? ⟨w.heap.size,0,none⟩=some (.slice aW ws.length cW)/\w'.cell? ⟨w.heap.size,1,none⟩=some (.slice aP ps.length cP)):=fun w' hb=>by
  have:w'.heap[w.heap.size]?=some (.cells #[.slice aW ws.length cW,.slice aP ps.length cP] 51 (0,0)):=(hb.block _ (by simp)).trans (zah rfl);exact⟨(zac this).1,(zac this).2.1⟩
 have LN:=zaa (fun w1 (hb:zB w w1)=>zpu (.slice aW ws.length cW) ws w1 (Rd.below RW.o hb) hw (hT.below hb) (hE.below hb) hr);have LD:=zaa (fun w1 (hb:zB w w1)=>znt (.slice aP ps.length cP) ps w1 (Rd.below RP.o hb) hp (hF.below hb) hs);obtain⟨x0,x1⟩:=CA.o _ zR;clear h1 h2 hT hE hF hr hs
 by_cases c1:ws.length=16
 case neg =>
  have E:=zaa (show zgx ws ps=false by unfold zgx;rw[decide_eq_false c1];rfl)
  have q:((ws.length:Int) == 16)=false:=by rw[beq_eq_false_iff_ne];omega
  clear c1;go_enter Tryz.func58,Tryz.ntmps58;go_wp2;go_ret;exact⟨zag E.o.symm,BW.o⟩
 have q:((ws.length:Int) == 16)=true:=by rw[beq_iff_eq];omega
 by_cases c2:ps.length=24
 case neg =>
  have E:=zaa (show zgx ws ps=false by unfold zgx;rw[decide_eq_false c2,Bool.false_and,Bool.and_false])
  have q2:((ps.length:Int) == 24)=false:=by rw[beq_eq_false_iff_ne];omega
  clear c1 c2;go_enter Tryz.func58,Tryz.ntmps58;go_wp2;go_ret;exact⟨zag E.o.symm,BW.o⟩
 have q2:((ps.length:Int) == 24)=true:=by rw[beq_iff_eq];omega
 have E:=zaa (show zgx ws ps=(zwo ws&&okDs ps) by unfold zgx;rw[decide_eq_true c1,decide_eq_true c2];rfl);clear c1 c2
 cases q3:zwo ws with
 | false =>
  rw[q3]at E LN;clear q3;go_enter Tryz.func58,Tryz.ntmps58;go_wp2_with fail;refine(LN.o _ BW.o).mono ?_;rintro e w1 ⟨rfl,hb1⟩;have B1:=zaa (zab BW.o hb1 BW.o.size);clear hb1 x0 x1;go_wp2;go_ret;exact⟨zag (by rw[E.o];rfl),B1.o⟩
 | true =>
  rw[q3]at E LN;clear q3;go_enter Tryz.func58,Tryz.ntmps58;go_wp2_with fail;refine(LN.o _ BW.o).mono ?_;rintro e w1 ⟨rfl,hb1⟩;have B1:=zaa (zab BW.o hb1 BW.o.size);clear x0 x1;obtain⟨x0,x1⟩:=CA.o _ hb1;clear hb1;go_wp2_with fail;refine(LD.o _ B1.o).mono ?_;rintro e w2 ⟨rfl,hb2⟩;have B2:=zaa (zab B1.o hb2 B1.o.size);clear hb2 x0 x1;go_wp2;go_ret;exact⟨zag (by rw[E.o];rfl),B2.o⟩
@[go_sem] theorem yasw(a:Option Addr)(l c:Nat)(w:World):(binOp .eql 49 (.slice a l c) (.N)).run Tryz.prog w=.ok (.bool a.isNone) w:=by
 simp only[binOp];simp[run_equal_slice_nil w 49 90 a l c Tryz.underlying49]
theorem zwb(v:Value)(ps:List Den)(w:World)(h:RdD w v ps)(hn:ps.length<=4096) :
  zC 116 #[v] w fun e w'=>∃ v',e=.returned v'/\Row w' 90 3 w.heap.size w'.heap.size v' ps.length (dens ps)/\zB w w':=by
 have HR:=zaa h;obtain⟨ao,cap,rfl,_,hc⟩:=h.shape;clear h
 cases ao with
 | none =>
  have hl:ps.length=0:=by
   rcases Nat.eq_zero_or_pos ps.length with e | e
   ·exact e
   ·obtain⟨b,o,e1,_⟩:=hc e
    cases e1
  have hps:ps=[]:=List.eq_nil_of_length_eq_zero hl;subst hps;clear hc hl;go_enter Tryz.func116,Tryz.ntmps116;go_wp2;go_ret;exact⟨_,rfl,Row.nil _ _ _ _ _,zR⟩
 | some a =>
  have BB:=zaa ((Below.refl w.heap.size w).alloc zL (.cells #[] 90));have OB:=zaa (World.ownsRow_lit (e:=90) (size:=3) w #[] 0 zL (by simp[maxLen]) (by simp));have RB:Hid (Rd (w.alloc (.cells #[] 90)) 3 (.slice (some a) ps.length cap) ps.length (dens ps)):=Rd.below HR.o BB.o;have hz:w.heap.size<=(w.alloc (.cells #[] 90)).heap.size:=BB.o.size;clear hc;go_enter Tryz.func116,Tryz.ntmps116;go_wp2_with (at_builtin;refine zae _ rfl (.tmp 5) (.tmp 6) 49 rfl w.heap.size 90 (.agg #[.I 0,.string ⟨#[]⟩,.I 0]) 3 32 Tryz.underlying49 zmy rfl (by decide) _ 0 [] rfl OB.o _ ps.length (dens ps) rfl RB.o (zhi _) (by simp[maxLen];omega) (by omega) hz ?_);intro vN wN hownN hgrN;have ON:=zaa hownN;have BN:=zaa (BB.o.grown hgrN hz (fun q hq=>(OB.o.lt q hq).1));clear hownN hgrN;obtain⟨-,aL,cL,hvL,-⟩:=(zad ON.o).rd;subst hvL;go_wp2;go_ret;exact⟨_,rfl,zad ON.o,BN.o⟩
def zgh(ds:List Den)(k:Nat):List Den:=(ds.take k).map zhx++ds.drop k
theorem zpz(ds:List Den)(k:Nat):(zgh ds k).length=ds.length:=by
 unfold zgh;rw[List.length_append,List.length_map,List.length_take,List.length_drop];omega
theorem zxt(ds:List Den):zgh ds 0=ds:=by simp[zgh]
theorem yabz(ds:List Den):zgh ds ds.length=ds.map zhx:=by simp[zgh]
theorem zyu{ds:List Den}{k:Nat}(h:k<ds.length):(dens (zgh ds k)).set (k*3+2) (.I (-1))=dens (zgh ds (k+1)):=by
 have e1:ds.drop k=ds[k]::ds.drop (k+1):=List.drop_eq_getElem_cons h
 have l1:(dens ((ds.take k).map zhx)).length=k*3:=by rw[zzq,List.length_map,List.length_take];congr 1;omega
 unfold zgh;rw[e1,List.take_succ_eq_append_getElem h,List.map_append,zjo,zjo,zjo,List.set_append_right _ _ (by omega),l1,List.append_assoc]
 congr 1
 rw[show k*3+2-k*3=2 by omega];rfl
theorem yadz(ps:List Den)(k:Nat)(h:k<ps.length):(dens ps)[k*3+2]?=some (.I ps[k].child):=zbh _ 3 Den.cells_len ps k 2 h (by omega)
theorem zre(v:Value)(ds:List Den)(w:World)(h:RdD w v ds)(hn:ds.length<=4096) :
  zC 61 #[v] w fun e w'=>e=.returned (.bool (znm (ds.map zhx)))/\zB w w':=by
 have HR:=zaa h;obtain⟨ao,cap,rfl,_,_⟩:=h.shape;clear h;go_enter Tryz.func61,Tryz.ntmps61;go_wp2_with fail;refine(zwb _ ds _ HR.o hn).mono ?_;rintro e w1 ⟨vN,rfl,hr1,hb1⟩;obtain⟨-,aN,cN,hvN,-⟩:=hr1.rd;subst hvN;have R1:=zaa hr1;have B1:=zaa hb1;have hz1:w.heap.size<=w1.heap.size:=hb1.size;clear hr1 hb1;go_wp2
 go_loopw [4,9] (fun _ i wr=>∃ k:Nat,k<=ds.length/\i=.I k/\Hid (Row wr 90 3 w.heap.size w1.heap.size (.slice aN ds.length cN) ds.length (dens (zgh ds k))/\zB w wr)) (fun _ i _=>ds.length-(intOf i).toNat)
 case atStart=>exact⟨0,by omega,rfl,by rw[zxt];exact R1.o,B1.o⟩
 case round =>
  obtain⟨k,hk,rfl,H⟩:=hrel
  by_cases hlt:k<ds.length
  ·rcases Row.shape H.o.1 with ⟨_,e,_⟩ | ⟨b,cap',e,_,_⟩
   ·exact absurd e (by omega)
   obtain⟨rfl,rfl⟩:aN=some ⟨b,0,none⟩/\cN=cap':=by cases e;exact⟨rfl,rfl⟩
   obtain⟨_,l1,l2,l3,fr,ce⟩:=Row.at H.o.1;have f0:=fr (k*3+2);have c0:=(ce (k*3+2) (by omega)).trans (yadz (zgh ds k) k (by rw[zpz];exact hlt))
   have k0:(0:Int)<=(k:Int):=by omega
   have k1:(k:Int)<(ds.length:Int):=by omega
   have G:Hid (Row (wr.setCell ⟨b,k*3+2,none⟩ (.I (-1))) 90 3 w.heap.size w1.heap.size (.slice (some ⟨b,0,none⟩) ds.length cN) ds.length (dens (zgh ds (k+1)))/\zB w (wr.setCell ⟨b,k*3+2,none⟩ (.I (-1)))):=by
    refine⟨?_,H.o.2.setCell l1 _⟩;rw[<- zyu hlt];exact Row.stored H.o.1 _ _
   clear H fr ce R1 e;generalize ((zgh ds k)[k]'(by rw[zpz];exact hlt)).child=z at c0;go_wp2
   go_roundw
   case rel=>exact⟨k+1,by omega,by go_num,G⟩
   case measure=>simp[intOf];omega
  ·obtain rfl:k=ds.length:=by omega
   have LA:=zaa (yabz ds);rw[LA.o]at H
   have R2:Hid (RdD wr (.slice aN ds.length cN) (ds.map zhx)):=by
    unfold Hid RdD;rw[List.length_map];exact H.o.1.rd
   have B2:=zaa H.o.2
   have hl:(ds.map zhx).length<=1048576:=by rw[List.length_map];omega
   have HL:=zaa hl;clear H hl;go_wp2_with fail;refine(zls _ (ds.map zhx) _ R2.o HL.o).mono ?_;rintro e w2 ⟨rfl,hb2⟩;have B3:=zaa (zab B2.o hb2 B2.o.size);clear hb2;go_wp2;go_ret;exact⟨rfl,B3.o⟩
theorem yame{ws:List Ino}{ts:List Den}(h:∀ k (h:k<ts.length),fitB ws ts[k]=true):zpk ws ts=true:=decide_eq_true h
theorem yadr{ws:List Ino}{ts:List Den}{k:Nat}(hk:k<ts.length)(h:fitB ws ts[k]=false):zpk ws ts=false:=decide_eq_false (fun x=>by have:=x k hk;rw[h]at this;cases this)
theorem zwg(vW v:Value)(ws:List Ino)(ts:List Den)(w:World)(hw:RdN w vW ws)(h:RdD w v ts)(hl:ws.length=16)(hn:ts.length<=4096)(hT:∀ k (h:k<ts.length),(0<=ts[k].child/\ts[k].child<=15)/\(0<=ts[k].dir/\ts[k].dir<=15)) :
  zC 60 #[vW,v] w fun e w'=>e=.returned (.bool (zpk ws ts))/\zB w w':=by
 obtain⟨aW,cW,rfl,_,hcW⟩:=hw.shape;obtain⟨aP,cP,rfl,_,hcP⟩:=h.shape;have HW:=zaa hcW;have HP:=zaa hcP;have HT:=zaa hT;have HL:=zaa hl
 have hl':(16:Int)<=(ws.length:Int):=by omega
 clear h hw hcW hcP hT hl;go_enter Tryz.func60,Tryz.ntmps60;go_wp2
 go_loopw [6,9] (fun _ i wr=>∃ k:Nat,k<=ts.length/\i=.I k/\Hid (zB w wr/\∀ j (h:j<ts.length),j<k->fitB ws ts[j]=true)) (fun _ i _=>ts.length-(intOf i).toNat)
 case atStart=>exact⟨0,by omega,rfl,zR,fun j h a=>absurd a (by omega)⟩
 case round =>
  obtain⟨k,hk,rfl,H⟩:=hrel;have H1:=zaa H.o.1;have hz:w.heap.size<=wr.heap.size:=H.o.1.size
  by_cases hlt:k<ts.length
  ·obtain⟨b,o,rfl,hbl,hcell⟩:=HP.o (by omega);obtain⟨bW,oW,rfl,hblW,hcellW⟩:=HW.o (by have:=HL.o;omega);obtain⟨a0,a1,a2⟩:=hcell k hlt;have d0:=(H1.o.cell (p:=⟨b,o+k*3,none⟩) hbl).trans a0;have d1:=(H1.o.cell (p:=⟨b,o+k*3+1,none⟩) hbl).trans a1;have d2:=(H1.o.cell (p:=⟨b,o+k*3+2,none⟩) hbl).trans a2
   have k0:(0:Int)<=(k:Int):=by omega
   have k1:(k:Int)<(ts.length:Int):=by omega
   obtain⟨⟨c1,c2⟩,c3,c4⟩:=HT.o k hlt
   have H2:Hid (fitB ws ts[k]=true->∀ j (h:j<ts.length),j<k+1->fitB ws ts[j]=true):=fun q j h a=>by
    by_cases e:j=k
    ·subst e;exact q
    ·exact H.o.2 j h (by omega)
   have H3:=zaa (fun q=>yadr (ws:=ws) hlt q);clear a0 a1 a2 hcell H;generalize ts[k]=x at *;obtain⟨xd,xs,xc⟩:=x;simp only at d0 d1 d2 c1 c2 c3 c4
   obtain⟨d,rfl⟩:∃ d:Nat,xd=(d:Int):=⟨xd.toNat,by omega⟩
   obtain⟨c,rfl⟩:∃ c:Nat,xc=(c:Int):=⟨xc.toNat,by omega⟩
   have hd:d<ws.length:=by omega
   have hc:c<ws.length:=by omega
   have B2:=zaa (H1.o.alloc hz (.cells #[.I (d:Int),.string xs,.I (c:Int)] 90));have g0:=(B2.o.cell (p:=⟨bW,oW+d*11,none⟩) hblW).trans (hcellW d hd).1;have g1:=(B2.o.cell (p:=⟨bW,oW+c*11,none⟩) hblW).trans (hcellW c hc).1;have FB:=zaa (show fitB ws ⟨(d:Int),xs,(c:Int)⟩=(ws[d].kind == 2&&!(ws[c].kind == 0)) by unfold fitB;rw[zbk hd,zbk hc])
   have d5:(d:Int)<(ws.length:Int):=by omega
   have c5:(c:Int)<(ws.length:Int):=by omega
   clear hcellW;generalize ws[d].kind=kd at g0 FB;generalize ws[c].kind=kc at g1 FB
   by_cases q:kd=2
   ·have q1:(kd != 2)=false:=by rw[q];rfl
    by_cases r:kc=0
    ·have r1:(kc == 0)=true:=by rw[r];rfl
     have E:=zaa (H3.o (by rw[FB.o,r1];simp));clear q r H2 H3 FB;go_wp2;go_ret;exact⟨zag E.o.symm,B2.o⟩
    ·have r1:(kc == 0)=false:=by rw[beq_eq_false_iff_ne];exact r
     have E:=zaa (H2.o (by rw[FB.o,r1,q];rfl));clear q r H2 H3 FB;go_wp2
     go_roundw
     case rel=>exact⟨k+1,by omega,by go_num,B2.o,E.o⟩
     case measure=>simp[intOf];omega
   ·have q1:(kd != 2)=true:=by rw[bne_iff_ne];exact q
    have E:=zaa (H3.o (by rw[FB.o,show(kd == 2)=false by rw[beq_eq_false_iff_ne];exact q];rfl));clear q H2 H3 FB;go_wp2;go_ret;exact⟨zag E.o.symm,B2.o⟩
  ·have E:=zaa (yame (ws:=ws) (fun j h=>H.o.2 j h (by omega)));clear H;go_wp2;go_ret;exact⟨zag E.o.symm,H1.o⟩
def zwp(ts:List Den)(k j:Nat):Int:=(if j=0 then 1 else 0)+(zlm ts j k:Int)
def lnkC(ts:List Den)(k:Nat):List Value:=(List.range 16).map fun j=>.I (zwp ts k j)
theorem zsc(ts:List Den)(k j:Nat)(h:j<16):(lnkC ts k)[j]?=some (.I (zwp ts k j)):=by
 unfold lnkC;rw[List.getElem?_map,List.getElem?_range h];rfl
theorem yacx(ts:List Den)(k j:Nat):0<=zwp ts k j/\zwp ts k j<=1+k:=by
 have:=yagi ts j k;unfold zwp
 split<;>omega
theorem yahv{ts:List Den}{k c:Nat}(hk:k<ts.length)(hc:c<16)(e:ts[k].child=(c:Int)):(lnkC ts k).set c (.I (zwp ts k c+1))=lnkC ts (k+1):=by
 apply List.ext_getElem?;intro j
 have hl:(lnkC ts k).length=16:=by simp[lnkC]
 by_cases hj:j<16
 ·rw[yagt (by omega),zsc ts (k+1) j hj,zsc ts k j hj]
  by_cases h:j=c
  ·subst h;rw[if_pos rfl];unfold zwp;rw[zkh hk,e];simp;omega
  ·rw[if_neg h];unfold zwp;rw[zkh hk,e]
   have:((c:Int) == (j:Int))=false:=by rw[beq_eq_false_iff_ne];omega
   rw[this];simp
 ·rw[List.getElem?_eq_none (by simp[lnkC];omega),List.getElem?_eq_none (by simp[lnkC];omega)]
theorem yaux{ws:List Ino}{ts:List Den}(h:∀ i (h:i<ws.length),ws[i].links=zwp ts ts.length i):lcB ws ts=true:=decide_eq_true h
theorem yaqv{ws:List Ino}{ts:List Den}{i:Nat}(hi:i<ws.length)(h:¬ ws[i].links=zwp ts ts.length i):lcB ws ts=false:=decide_eq_false (fun x=>h (x i hi))
theorem zlu(vW v:Value)(ws:List Ino)(ts:List Den)(w:World)(hw:RdN w vW ws)(h:RdD w v ts)(hl:ws.length=16)(hn:ts.length<=4096)(hT:∀ k (h:k<ts.length),0<=ts[k].child/\ts[k].child<=15) :
  zC 62 #[vW,v] w fun e w'=>e=.returned (.bool (lcB ws ts))/\zB w w':=by
 obtain⟨aW,cW,rfl,_,hcW⟩:=hw.shape;obtain⟨aP,cP,rfl,_,hcP⟩:=h.shape;have HW:=zaa hcW;have HP:=zaa hcP;have HT:=zaa hT;have HL:=zaa hl
 have S0:Hid ((w.alloc (.cells #[.I 1,.I 0,.I 0,.I 0,.I 0,.I 0,.I 0,.I 0,.I 0,.I 0,.I 0,.I 0,.I 0,.I 0,.I 0,.I 0] 165)).heap[w.heap.size]?=some (.cells (lnkC ts 0).toArray 165 (0,0))/\zB w (w.alloc (.cells #[.I 1,.I 0,.I 0,.I 0,.I 0,.I 0,.I 0,.I 0,.I 0,.I 0,.I 0,.I 0,.I 0,.I 0,.I 0,.I 0] 165))):=⟨zah rfl,zR.alloc zL _⟩
 clear h hw hcW hcP hT hl;go_enter Tryz.func62,Tryz.ntmps62;go_wp2
 go_loopw [7,13] (fun _ i wr=>∃ k:Nat,k<=ts.length/\i=.I k/\Hid (wr.heap[w.heap.size]?=some (.cells (lnkC ts k).toArray 165 (0,0))/\zB w wr)) (fun _ i _=>ts.length-(intOf i).toNat)
 case atStart=>exact⟨0,by omega,rfl,S0⟩
 case round =>
  obtain⟨k,hk,rfl,I⟩:=hrel;have hz:w.heap.size<=wr.heap.size:=I.o.2.size;have hzz:w.heap.size<wr.heap.size:=(Array.getElem?_eq_some_iff.1 I.o.1).1;clear S0
  by_cases hlt:k<ts.length
  ·obtain⟨b,o,rfl,hbl,hcell⟩:=HP.o (by omega);obtain⟨a0,a1,a2⟩:=hcell k hlt;have d0:=(I.o.2.cell (p:=⟨b,o+k*3,none⟩) hbl).trans a0;have d1:=(I.o.2.cell (p:=⟨b,o+k*3+1,none⟩) hbl).trans a1;have d2:=(I.o.2.cell (p:=⟨b,o+k*3+2,none⟩) hbl).trans a2
   have k0:(0:Int)<=(k:Int):=by omega
   have k1:(k:Int)<(ts.length:Int):=by omega
   obtain⟨c1,c2⟩:=HT.o k hlt
   obtain⟨c,hc⟩:∃ c:Nat,ts[k].child=(c:Int):=⟨ts[k].child.toNat,by omega⟩
   have LS:=zaa (yahv hlt (c:=c) (by omega) hc);rw[hc]at d2 c1 c2;obtain⟨v0,v1⟩:=yacx ts k c;have LA:=zaa (zsc ts k c (by omega));have g1:=(zak I.o.1 c).1.trans LA.o;have g2:=(zak I.o.1 c).2;clear a0 a1 a2 hcell hc;generalize ts[k].dir=xd at *;generalize ts[k].name=xs at *;generalize zwp ts k c=z at *;have BA:Hid (zB wr (wr.alloc (.cells #[.I xd,.string xs,.I (c:Int)] 90))):=zR.alloc zL _;have g3:=(BA.o.cell (p:=⟨w.heap.size,c,none⟩) hzz).trans g1;have g4:(wr.alloc (.cells #[.I xd,.string xs,.I (c:Int)] 90)).frozen? ⟨w.heap.size,c,none⟩=false:=(zak (zal I.o.1) c).2
   have c16:(c:Int)<16:=by omega
   have G:Hid (((wr.setCell ⟨w.heap.size,c,none⟩ (.I (z+1))).alloc (.cells #[.I xd,.string xs,.I (c:Int)] 90)).heap[w.heap.size]?=some (.cells (lnkC ts (k+1)).toArray 165 (0,0))/\zB w ((wr.setCell ⟨w.heap.size,c,none⟩ (.I (z+1))).alloc (.cells #[.I xd,.string xs,.I (c:Int)] 90))):=by
    refine⟨?_,(I.o.2.setCell zL _).alloc (by simp;omega) _⟩;rw[<- LS.o];exact zal (zcd I.o.1 c _)
   clear I LS LA BA;go_wp2
   go_roundw
   case rel=>exact⟨k+1,by omega,by go_num,G⟩
   case measure=>simp[intOf];omega
  ·obtain rfl:k=ts.length:=by omega
   have START:Hid (zB wr wr):=zR
   have HC:Hid (∀ w',zB wr w'->∀ j,j<16->w'.cell? ⟨w.heap.size,j,none⟩=some (.I (zwp ts ts.length j))):=fun w' hb j hj=>by
    have:=(hb.block _ hzz).trans I.o.1;exact(zak this j).1.trans (zsc ts ts.length j hj)
   have BW:=zaa I.o.2;generalize hV:wr=V at *;clear hV I;go_wp2
   go_loopw [8,9,26] (fun _ _ i wq=>∃ m:Nat,m<=ws.length/\i=.I m/\Hid (zB V wq/\∀ j (h:j<ws.length),j<m->ws[j].links=zwp ts ts.length j)) (fun _ _ i _=>ws.length-(intOf i).toNat)
   case atStart=>exact⟨0,by omega,rfl,START.o,fun j h a=>absurd a (by omega)⟩
   case round =>
    obtain⟨m,hm,rfl,J⟩:=hrel;have J1:=zaa J.o.1;have JW:=zaa (zab BW.o J.o.1 hz);have hzq:V.heap.size<=wr.heap.size:=J.o.1.size
    by_cases hlm:m<ws.length
    ·obtain⟨b,o,rfl,hbl,hcell⟩:=HW.o (by omega);obtain⟨a0,a1,a2,a3,a4,a5,a6,a7,a8,a9,a10⟩:=hcell m hlm;have d0:=(JW.o.cell (p:=⟨b,o+m*11,none⟩) hbl).trans a0;have d1:=(JW.o.cell (p:=⟨b,o+m*11+1,none⟩) hbl).trans a1;have d2:=(JW.o.cell (p:=⟨b,o+m*11+2,none⟩) hbl).trans a2;have d3:=(JW.o.cell (p:=⟨b,o+m*11+3,none⟩) hbl).trans a3;have d4:=(JW.o.cell (p:=⟨b,o+m*11+4,none⟩) hbl).trans a4;have d5:=(JW.o.cell (p:=⟨b,o+m*11+5,none⟩) hbl).trans a5;have d6:=(JW.o.cell (p:=⟨b,o+m*11+6,none⟩) hbl).trans a6;have d7:=(JW.o.cell (p:=⟨b,o+m*11+7,none⟩) hbl).trans a7;have d8:=(JW.o.cell (p:=⟨b,o+m*11+8,none⟩) hbl).trans a8;have d9:=(JW.o.cell (p:=⟨b,o+m*11+9,none⟩) hbl).trans a9;have d10:=(JW.o.cell (p:=⟨b,o+m*11+10,none⟩) hbl).trans a10
     have m0:(0:Int)<=(m:Int):=by omega
     have m1:(m:Int)<(ws.length:Int):=by omega
     have m16:(m:Int)<16:=by have:=HL.o;omega
     have B2:=zaa (J1.o.alloc hzq (.cells ws[m].cs.toArray 87));have l1:=HC.o _ B2.o m (by omega)
     have J2:Hid (ws[m].links=zwp ts ts.length m->∀ j (h:j<ws.length),j<m+1->ws[j].links=zwp ts ts.length j):=fun q j h a=>by
      by_cases e:j=m
      ·subst e;exact q
      ·exact J.o.2 j h (by omega)
     have J3:=zaa (fun q=>yaqv (ts:=ts) hlm q);clear a0 a1 a2 a3 a4 a5 a6 a7 a8 a9 a10 hcell J;generalize zwp ts ts.length m=z at l1 J2 J3;generalize ws[m]=x at d0 d1 d2 d3 d4 d5 d6 d7 d8 d9 d10 B2 l1 J2 J3;have BF:=zaa (zab BW.o B2.o hz);unfold Ino.cs at B2 BF l1
     by_cases q:x.links=z
     ·have q1:(x.links != z)=false:=by rw[q];simp
      have E:=zaa (J2.o q);clear q J2 J3;go_wp2
      go_quiet (fail)
      go_wp2
      go_roundw
      case rel=>exact⟨m+1,by omega,by go_num,zgi B2.o _,E.o⟩
      case measure=>simp[intOf];omega
     ·have q1:(x.links != z)=true:=by rw[bne_iff_ne];exact q
      have E:=zaa (J3.o q);clear q J2 J3;go_wp2
      go_quiet (fail)
      go_wp2;go_ret;exact⟨zag E.o.symm,zgi BF.o _⟩
    ·have E:=zaa (yaux (ts:=ts) (fun j h=>J.o.2 j h (by omega)));clear J;go_wp2;go_ret;exact⟨zag E.o.symm,JW.o⟩
end Go.Proofs.YtogcbbkhnpmgeaaGreatDoor
