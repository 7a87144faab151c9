/- Several texts laid together: MdJ, MeE, MeF. -/
import Derived.Test.YtbohndgbfbfldaaGreatDoorZBS
import Derived.Test.YtbohndgbfbfldaaGreatDoorOrdT
import Derived.Test.YtbohndgbfbfldaaGreatDoorZBN
import Derived.Test.YtbohndgbfbfldaaGreatDoorMeD
import Derived.Test.YtbohndgbfbfldaaGreatDoorZBQ
import Derived.Test.YtbohndgbfbfldaaGreatDoorZBL
import Derived.Test.YtbohndgbfbfldaaGreatDoorMdK
import Derived.Test.YtbohndgbfbfldaaGreatDoorZAY
set_option maxRecDepth 100000
set_option maxHeartbeats 8000000
namespace Go.Proofs.YtbohndgbfbfldaaGreatDoor
open Go.RowKit
def moT (ws:List Int) (ps:List St) (es:List Int) (qs:List Se):List Th:=if dvB ws ps es qs=true then ofL ws ps es qs (dvN ws ps es qs) else []
def moD (ws:List Int) (ps:List St) (es:List Int) (qs:List Se):List Den:=if dvB ws ps es qs=true then dvD ws ps es qs else []
def moC (ws:List Int) (ps:List St) (es:List Int) (qs:List Se):Int:=if dvB ws ps es qs=true then 0 else 1
theorem dvI {ws:List Int} {ps:List St} {es:List Int} {qs:List Se} (d:dvB ws ps es qs=true):zsz (dvN ws ps es qs) (dvD ws ps es qs)=true:=by rw[(zfh d).2.2.1,(zfh d).2.2.2.1];exact (zfh d).2.2.2.2
theorem dvL {ws:List Int} {ps:List St} {es:List Int} {qs:List Se} (d:dvB ws ps es qs=true):(dvN ws ps es qs).length=16∧(dvD ws ps es qs).length=24∧∀ k (h:k < (dvN ws ps es qs).length),zga (dvN ws ps es qs)[k]=true:=by
 obtain ⟨a,b,-,o,-⟩:=zzq (dvI d);exact ⟨a,b,of_decide_eq_true o⟩
theorem yabh {ws:List Int} {ps:List St} {es:List Int} {qs:List Se} {ns:List Ino}:(ofL ws ps es qs ns).length=ns.length:=by simp[ofL]
theorem zvn {ws:List Int} {ps:List St} {es:List Int} {qs:List Se} {ns:List Ino} {k:Nat} (h:k < (ofL ws ps es qs ns).length) (h2:k < ns.length):(ofL ws ps es qs ns)[k]=ofT ws ps es qs ns[k]:=by simp[ofL]
theorem zmj (args:Array Value) (w:World):(callFunc 103 args).run Tryz.prog w=.ok (.enter 103 args) w:=by
 simp[callFunc,go_sem,Tryz.func103,Tryz.f103]
theorem zhx (v:Value) (ws:List Int) (ps:List St) (es:List Int) (qs:List Se) (w:World) (h:RdDev w v ws ps es qs) (hw:ws.length≤1048576) (hp:ps.length≤1048576) (he:es.length≤1048576) (hq:qs.length≤1048576) (hT:TS w) (hE:ED w) (hF:FD w) (hN:NW w) :
  Calls Tryz.prog 45 #[v] w fun e w'=>∃ v',e=.returned (.tuple #[v',.int .i64 (moC ws ps es qs)])∧RowMd w' w.heap.size w'.heap.size v' (moT ws ps es qs) (moD ws ps es qs)∧Below w.heap.size w w':=by
 have LS:=zaa (fun w1 (hb:Below w.heap.size w w1)=>zlo v ws ps es qs w1 (h.below hb) hw hp he hq (hT.below hb) (hE.below hb) (hF.below hb));have LI:=zaa (fun v1 w1 (hb:Below w.heap.size w w1) (h1:RdIm w1 v1 (dvN ws ps es qs) (dvD ws ps es qs))=>zdw v1 (dvN ws ps es qs) (dvD ws ps es qs) w1 h1 (yaba ws ps es qs).1 (yaba ws ps es qs).2 (hT.below hb) (hE.below hb) (hF.below hb) dv_R yacp)
 have LF:Hid (dvB ws ps es qs=true→∀ (b:Nat) v2 w1,Below w.heap.size w w1→RdIm w1 v2 (dvN ws ps es qs) (dvD ws ps es qs)→(∃ a0 n0 c0 a1 n1 c1 a2 n2 c2 a3 n3 c3,v=.agg #[.slice a0 n0 c0,.slice a1 n1 c1,.slice a2 n2 c2,.slice a3 n3 c3]∧w1.heap[b]?=some (.cells #[.slice a0 n0 c0,.slice a1 n1 c1,.slice a2 n2 c2,.slice a3 n3 c3] 30 (0,0)))→Calls Tryz.prog 102 #[v2,.func (.func 103) #[] #[.pointer (some ⟨b,0,none⟩)]] w1 fun e w'=>∃ v',e=.returned v'∧RowMd w' w1.heap.size w'.heap.size v' (ofL ws ps es qs (dvN ws ps es qs)) (dvD ws ps es qs)∧Below w1.heap.size w1 w'):=fun d b v2 w1 hb h2 hbx=>by
  refine zrt _ _ zmj v2 (dvN ws ps es qs) (dvD ws ps es qs) (ofL ws ps es qs (dvN ws ps es qs)) w1 h2 (by rw[(dvL d).1];decide) (by rw[(dvL d).2.1];decide) yabh (fun k hk hk2=>by rw[zvn hk hk2];exact ⟨rfl,rfl⟩) ?_;intro w2 hb2 k hk hk2 x hx;have B:=zab hb hb2 hb.size;rw[zvn hk hk2,← hx];obtain ⟨a0,n0,c0,a1,n1,c1,a2,n2,c2,a3,n3,c3,e,hcell⟩:=hbx;exact znn b k v ws ps es qs x w2 (h.below B) ⟨a0,n0,c0,a1,n1,c1,a2,n2,c2,a3,n3,c3,e,(hb2.block b (Array.getElem?_eq_some_iff.1 hcell).1).trans hcell⟩ (zfh d).1 (zfh d).2.1 (by rw[hx];exact (dvL d).2.2 k hk2) (hT.below B) (hN.below B)
 have ET:Hid (dvB ws ps es qs=true→moT ws ps es qs=ofL ws ps es qs (dvN ws ps es qs)∧moD ws ps es qs=dvD ws ps es qs∧moC ws ps es qs=0):=fun d=>⟨if_pos d,if_pos d,if_pos d⟩
 have EF:Hid (dvB ws ps es qs=false→moT ws ps es qs=[]∧moD ws ps es qs=[]∧moC ws ps es qs=1):=fun d=>by
  have d':¬ dvB ws ps es qs=true:=by rw[d];decide
  exact ⟨if_neg d',if_neg d',if_neg d'⟩
 rw[yaey] at LI;obtain ⟨dW,eW,dP,eP,dS,eS,dQ,eQ,rfl,-,-⟩:=h.form;clear h hT hE hF hN
 obtain ⟨W,hW⟩:∃ W,W=(w.alloc (.cells #[.slice dW ws.length eW,.slice dP ps.length eP,.slice dS es.length eS,.slice dQ qs.length eQ] 30)).alloc (.cells #[.slice none 0 0,.slice none 0 0] 40):=⟨_,rfl⟩
 have hzW:W.heap.size=w.heap.size+1+1:=by rw[hW];simp
 have CB:Hid (∀ w',Below W.heap.size W w'→w'.heap[w.heap.size]?=some (.cells #[.slice dW ws.length eW,.slice dP ps.length eP,.slice dS es.length eS,.slice dQ qs.length eQ] 30 (0,0))):=fun w' hb=>(hb.block _ (by omega)).trans (by rw[hW];exact zao (zae rfl))
 have CD:Hid (∀ w',Below W.heap.size W w'→w'.cell? ⟨w.heap.size,0,none⟩=some (.slice dW ws.length eW)∧w'.cell? ⟨w.heap.size,1,none⟩=some (.slice dP ps.length eP)∧w'.cell? ⟨w.heap.size,2,none⟩=some (.slice dS es.length eS)∧w'.cell? ⟨w.heap.size,3,none⟩=some (.slice dQ qs.length eQ)):=fun w' hb=>by
  obtain ⟨x0,x1,x2,x3,-,-,-,-⟩:=zaj (CB.o w' hb);exact ⟨x0,x1,x2,x3⟩
 have CR:Hid (∀ w',Below W.heap.size W w'→w'.heap[w.heap.size+1]?=some (.cells #[.slice none 0 0,.slice none 0 0] 40 (0,0))):=fun w' hb=>(hb.block _ (by omega)).trans (by
  rw[hW];have:=zae (w:=w.alloc (.cells #[.slice dW ws.length eW,.slice dP ps.length eP,.slice dS es.length eS,.slice dQ qs.length eQ] 30)) (o:=.cells #[.slice none 0 0,.slice none 0 0] 40) rfl;rw[World.size_alloc] at this
  exact this)
 have BW:Hid (Below w.heap.size w W):=by rw[hW];exact ((Below.refl _ _).alloc (Nat.le_refl _) _).alloc (by simp) _
 have hz2:w.heap.size+1 < W.heap.size:=by omega
 clear hzW;obtain ⟨x0,x1,x2,x3⟩:=CD.o _ (Below.refl _ _);generalize moT ws ps es qs=mt at *;generalize moD ws ps es qs=md at *;generalize moC ws ps es qs=mc at *;generalize dvB ws ps es qs=db at *;generalize dvN ws ps es qs=dn at *;generalize dvD ws ps es qs=dd at *;go_enter Tryz.func45,Tryz.ntmps45;go_wp2_with fail;rw[← hW];clear hW;refine (LS.o _ BW.o).mono ?_;rintro e w1 ⟨v1,rfl,hR,hb1⟩;have HR:=zaa hR;obtain ⟨vI,vD,rfl,hI,hD⟩:=hR;obtain ⟨a1,k1,hv1,-,hcN⟩:=RdN.shape hI.rd;obtain ⟨-,a2,k2,hv2,-⟩:=hD.rd;subst hv1;subst hv2;have A1:=zaa hb1;have B1:=zaa (zab BW.o hb1 BW.o.size);have BC:Hid (Below w1.heap.size w1 (w1.alloc (.cells #[.slice a1 dn.length k1,.slice a2 dd.length k2] 123))):=(Below.refl _ _).alloc (Nat.le_refl _) _;have VM:Hid ((w1.alloc (.cells #[.slice a1 dn.length k1,.slice a2 dd.length k2] 123)).heap[w1.heap.size]?=some (.cells #[.slice a1 dn.length k1,.slice a2 dd.length k2] 123 (0,0))):=zae rfl
 obtain ⟨w2,hw2⟩:∃ w2,w2=w1.alloc (.cells #[.slice a1 dn.length k1,.slice a2 dd.length k2] 123):=⟨_,rfl⟩
 rw[← hw2] at BC VM;have A2:=zaa (zxr A1.o BC.o);have B2:=zaa (zab B1.o BC.o B1.o.size);have R2:=zaa (HR.o.below BC.o (Nat.le_refl _)).rd;have hz3:w1.heap.size < w2.heap.size:=(Array.getElem?_eq_some_iff.1 VM.o).1;have hz4:W.heap.size≤w2.heap.size:=A2.o.size;have LI2:=zaa (LI.o _ w2 B2.o R2.o);clear hb1 hI hD hcN HR x0 x1 x2 x3 B1 LI LS;obtain ⟨y0,y1,_,_⟩:=zac VM.o;rw[hw2] at y0 y1;go_wp2_with fail;rw[← hw2];clear hw2 y0 y1;refine LI2.o.mono ?_;rintro e w3 ⟨rfl,hb3⟩;have A3:=zaa (zxr A2.o hb3);have B3:=zaa (zab B2.o hb3 B2.o.size);have VM3:=zaa ((hb3.block _ hz3).trans VM.o);have R3:=zaa (R2.o.below hb3);have hz5:=hb3.size;clear hb3 LI2 VM R2 A2 B2;obtain ⟨y0,y1,_,_⟩:=zac VM3.o;have C3:=zaa (CR.o w3 A3.o);obtain ⟨p0,p1,p2,p3⟩:=zac C3.o
 cases db with
 | false =>
  obtain ⟨rfl,rfl,rfl⟩:=EF.o rfl;have BR:Hid (Below w.heap.size w ((w3.setCell ⟨w.heap.size+1,0,none⟩ (.slice none 0 0)).setCell ⟨w.heap.size+1,1,none⟩ (.slice none 0 0))):=(B3.o.setCell (by simp only;omega) _).setCell (by simp only;omega) _;have S2:((w3.setCell ⟨w.heap.size+1,0,none⟩ (.slice none 0 0)).setCell ⟨w.heap.size+1,1,none⟩ (.slice none 0 0)).heap[w.heap.size+1]?=some (.cells #[.slice none 0 0,.slice none 0 0] 40 (0,0)):=zal (xs:=[.slice none 0 0,.slice none 0 0]) (zcx C3.o (.slice none 0 0)) 1 _;obtain ⟨s0,s1,-,-⟩:=zac S2;clear LF ET EF;go_wp2;refine bodyPost_ret (v:=.tuple #[.agg #[.slice none 0 0,.slice none 0 0],.int .i64 1]) (by simp[results,Tryz.results45,go_sem,s0,s1]) rfl ?_;exact ⟨_,rfl,⟨_,_,w.heap.size,w.heap.size,w.heap.size,w.heap.size,rfl,RowTh.nil _ _ _,Row.nil _ _ _ _ _,Nat.le_refl _,BR.o.size,Nat.le_refl _,BR.o.size,.inl (Nat.le_refl _)⟩,BR.o⟩
 | true =>
  obtain ⟨rfl,rfl,rfl⟩:=ET.o rfl;have LF2:=zaa (LF.o rfl w.heap.size _ w3 B3.o R3.o ⟨_,_,_,_,_,_,_,_,_,_,_,_,rfl,CB.o w3 A3.o⟩);clear ET EF LF;go_wp2_with fail;refine LF2.o.mono ?_;rintro e w4 ⟨v4,rfl,hR4,hb4⟩;have A4:=zaa (zxr A3.o hb4);have B4:=zaa (zab B3.o hb4 B3.o.size);have hz6:=hb4.size;have O4:=zaa (show RowMd w4 w3.heap.size w4.heap.size v4 _ _ from hR4);obtain ⟨aT,cT,aE,cE,rfl⟩:=hR4.rd.form;clear hR4 hb4 y0 y1 p0 p1 p2 p3 C3 LF2;have C4:=zaa (CR.o w4 A4.o);obtain ⟨p0,p1,p2,p3⟩:=zac C4.o;generalize (ofL ws ps es qs dn).length=nT at *
  have OF:Hid (Outside (w.heap.size+1) (w.heap.size+1+1) w4 ((w4.setCell ⟨w.heap.size+1,0,none⟩ (.slice aT nT cT)).setCell ⟨w.heap.size+1,1,none⟩ (.slice aE md.length cE))):=by
   repeat (refine Outside.setCell ?_ (by simp only;omega) (by simp only;omega) _)
   exact Outside.refl _ _ _
  have BR:Hid (Below w.heap.size w ((w4.setCell ⟨w.heap.size+1,0,none⟩ (.slice aT nT cT)).setCell ⟨w.heap.size+1,1,none⟩ (.slice aE md.length cE))):=(B4.o.setCell (by simp only;omega) _).setCell (by simp only;omega) _;have S2:((w4.setCell ⟨w.heap.size+1,0,none⟩ (.slice aT nT cT)).setCell ⟨w.heap.size+1,1,none⟩ (.slice aE md.length cE)).heap[w.heap.size+1]?=some (.cells #[.slice aT nT cT,.slice aE md.length cE] 40 (0,0)):=zal (xs:=[.slice aT nT cT,.slice none 0 0]) (zcx C4.o (.slice aT nT cT)) 1 _;obtain ⟨s0,s1,-,-⟩:=zac S2;have zq:=OF.o.size;go_wp2;refine bodyPost_ret (v:=.tuple #[.agg #[.slice aT nT cT,.slice aE md.length cE],.int .i64 0]) (by simp[results,Tryz.results45,go_sem,s0,s1]) rfl ?_;exact ⟨_,rfl,(O4.o.outside OF.o (.inr (by omega)) (Nat.le_refl _)).wide (by omega) zq,BR.o⟩
theorem yabg:dvB ndW [] zbu []=true:=by kernel_rfl
theorem yaeu:ofL ndW [] zbu [] (dvN ndW [] zbu [])=nwT:=by kernel_rfl
theorem yady:dvD ndW [] zbu []=nwD:=by kernel_rfl
theorem yacx:moT ndW [] zbu []=nwT∧moD ndW [] zbu []=nwD∧moC ndW [] zbu []=0:=⟨(if_pos yabg).trans yaeu,(if_pos yabg).trans yady,if_pos yabg⟩
theorem zgx (w:World) (hT:TS w) (hE:ED w) (hF:FD w) (hN:NW w) :
  Calls Tryz.prog 16 #[] w fun e w'=>∃ v',e=.returned v'∧RowMd w' w.heap.size w'.heap.size v' nwT nwD∧Below w.heap.size w w':=by
 have LN:=zaa (fun w1 (hb:Below w.heap.size w w1)=>zcy w1 (hT.below hb) (hE.below hb));have LM:=zaa (fun v1 w1 (hb:Below w.heap.size w w1) (h1:RdDev w1 v1 ndW [] zbu [])=>zhx v1 ndW [] zbu [] w1 h1 (by rw[zfr];decide) (by decide) (by rw[zdp];decide) (by decide) (hT.below hb) (hE.below hb) (hF.below hb) (hN.below hb));rw[yacx.1,yacx.2.1,yacx.2.2] at LM;clear hT hE hF hN
 obtain ⟨w0,hw0⟩:∃ w0:World,w0=w.alloc (.cells #[.slice none 0 0,.slice none 0 0] 40):=⟨_,rfl⟩
 have V0:Hid (w0.heap[w.heap.size]?=some (.cells #[.slice none 0 0,.slice none 0 0] 40 (0,0))):=by rw[hw0];exact zae rfl
 have B0:Hid (Below w.heap.size w w0):=by rw[hw0];exact (Below.refl _ _).alloc (Nat.le_refl _) _
 have hz0:w.heap.size < w0.heap.size:=by rw[hw0];simp
 generalize nwT=T2 at *;generalize nwD=D2 at *;go_enter Tryz.func16,Tryz.ntmps16;go_wp2_with fail;rw[← hw0];clear hw0;refine (LN.o w0 B0.o).mono ?_;rintro e w1 ⟨v1,rfl,hr1,hb1⟩;have A1:=zaa hb1;have B1:=zaa (zab B0.o hb1 B0.o.size);have R1:=zaa hr1.rd;clear hr1 hb1 LN;go_wp2_with fail;refine (LM.o v1 w1 B1.o R1.o).mono ?_;rintro e w2 ⟨v2,rfl,hr2,hb2⟩;have A2:=zaa (zxr A1.o hb2);have B2:=zaa (zab B1.o hb2 B1.o.size);have hz1:=A1.o.size;have O2:=zaa (show RowMd w2 w1.heap.size w2.heap.size v2 T2 D2 from hr2);obtain ⟨aT,cT,aE,cE,rfl⟩:=hr2.rd.form;clear hr2 hb2 LM R1;generalize T2.length=nt at *;generalize D2.length=nd at *;have BC:Hid (Below w2.heap.size w2 (w2.alloc (.cells #[.slice aT nt cT,.slice aE nd cE] 40))):=(Below.refl _ _).alloc (Nat.le_refl _) _;have VM:Hid ((w2.alloc (.cells #[.slice aT nt cT,.slice aE nd cE] 40)).heap[w2.heap.size]?=some (.cells #[.slice aT nt cT,.slice aE nd cE] 40 (0,0))):=zae rfl
 obtain ⟨w3,hw3⟩:∃ w3,w3=w2.alloc (.cells #[.slice aT nt cT,.slice aE nd cE] 40):=⟨_,rfl⟩
 have V3:=zaa ((BC.o.block _ (Nat.lt_of_lt_of_le hz0 A2.o.size)).trans ((A2.o.block _ hz0).trans V0.o));obtain ⟨p0,p1,p2,p3⟩:=zac V3.o;obtain ⟨y0,y1,-,-⟩:=zac VM.o;have B3:=zaa (zab B2.o BC.o B2.o.size);have O3:=zaa (O2.o.below BC.o (Nat.le_refl _));have hz2:=A2.o.size;rw[← hw3] at V3 B3 O3
 have hz3:w2.heap.size≤w3.heap.size:=by rw[hw3];simp
 go_wp2;rw[← hw3]
 have OF:Outside w.heap.size (w.heap.size+1) w3 ((w3.setCell ⟨w.heap.size,0,none⟩ (.slice aT nt cT)).setCell ⟨w.heap.size,1,none⟩ (.slice aE nd cE)):=by
  repeat (refine Outside.setCell ?_ (by simp only;omega) (by simp only;omega) _)
  exact Outside.refl _ _ _
 have S2:((w3.setCell ⟨w.heap.size,0,none⟩ (.slice aT nt cT)).setCell ⟨w.heap.size,1,none⟩ (.slice aE nd cE)).heap[w.heap.size]?=some (.cells #[.slice aT nt cT,.slice aE nd cE] 40 (0,0)):=zal (xs:=[.slice aT nt cT,.slice none 0 0]) (zcx V3.o (.slice aT nt cT)) 1 _;obtain ⟨s0,s1,-,-⟩:=zac S2;have zq:=OF.size;refine bodyPost_ret (v:=.agg #[.slice aT nt cT,.slice aE nd cE]) (by simp[results,Tryz.results16,go_sem,s0,s1]) rfl ?_;exact ⟨_,rfl,(O3.o.outside OF (.inr (by omega)) (by omega)).wide (by omega) (by omega),(B3.o.setCell (by simp only;omega) _).setCell (by simp only;omega) _⟩
end Go.Proofs.YtbohndgbfbfldaaGreatDoor
