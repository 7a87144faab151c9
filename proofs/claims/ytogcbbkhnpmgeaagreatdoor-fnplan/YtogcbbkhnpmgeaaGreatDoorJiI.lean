/- A journal's plan: by the program. -/
import Derived.Test.YtogcbbkhnpmgeaaGreatDoorZBN
set_option maxRecDepth 100000
set_option maxHeartbeats 4000000
namespace Go.Proofs.YtogcbbkhnpmgeaaGreatDoor
open Go.RowKit
theorem yasf(l:List St):zqm (l.map stM)=l.map (·.at_):=by simp[zqm,stM]
theorem zpt(l:List St):segM (l.map stM)=seg l:=by unfold segM seg;rw[yasf]
theorem yach{l:List St}(h1:l.length<=50)(h2:∀ s∈l,0<=s.at_/\s.at_<336):zlx (l.map stM) :=
 ⟨by simpa using h1,fun k hk=>by
  rw[List.getElem_map]
  exact h2 _ (List.getElem_mem _)⟩
theorem yafg(A B:List Mi):zdy [A,B] 2=segM A++segM B:=by simp[zdy]
def zlk(us:List Se):List Mi:=if us.length=0 then[]else seg (jrn 0 (zdj us))++seg (cnt (us.length:Int))
def appL(us:List Se):List Mi:=if us.length=0 then[]else ziw (zdj us)
theorem yaig(us:List Se):zct (zdj us)=zlk us++appL us:=by
 unfold zct zlk appL;rw[zbt]
 split<;>simp
theorem yato(us:List Se):(zlk us).length<=4*us.length+4:=by
 unfold zlk seg
 split
 ·simp
 ·have h1:=zbo ((jrn 0 (zdj us)).map (·.at_));have h2:=zbo ((cnt (us.length:Int)).map (·.at_));have h3:=zlg (zdj us) 0;rw[zbt]at h3;simp only[List.length_append,List.length_map]at *;have h4:(cnt (us.length:Int)).length=1:=rfl;omega
theorem yayg(us:List Se):(appL us).length<=2*us.length+4:=by
 unfold appL
 split
 ·simp
 ·exact znm us
theorem yane(n:Int):(cnt n).map stM=[⟨1,8,n⟩]:=rfl
theorem yafy(n:Int):zlx [⟨1,8,n⟩]:=yach (l:=cnt n) (by simp[cnt]) (fun s hs=>by rw[List.mem_singleton.1 hs];exact⟨by show(0:Int)<=8;omega,by show(8:Int)<336;omega⟩)
theorem yazb(us:List Se)(hn:us.length<=16):zlx (jlM us us.length):=by
 rw[yacf];refine yach (by rw[zlg,zbt];omega) (fun s hs=>?_);have:=zrf (zdj us) 0 s hs;rw[zbt]at this;omega
theorem yazz(us:List Se)(hn:us.length<=16)(hu:∀ k (h:k<us.length),0<=us[k].at_/\us[k].at_<336):zlx (apM us us.length):=by
 rw[yadg];refine yach (by rw[zbt];omega) (fun s hs=>?_);obtain⟨q,hq,rfl⟩:=List.mem_map.1 (show s∈us.map (fun s=>up s.at_ s.val)from hs);obtain⟨i,hi,rfl⟩:=List.getElem_of_mem hq;exact hu i hi
theorem ztz{w:World}{x y:Value}{t:TypeId}:(w.alloc (.cells #[x,y] t)).cell? ⟨w.heap.size,0,none⟩=some x/\(w.alloc (.cells #[x,y] t)).cell? ⟨w.heap.size,1,none⟩=some y:=by
 obtain⟨a,b,-,-⟩:=zac (zaf (w:=w) (o:=.cells #[x,y] t) rfl);exact⟨a,b⟩
theorem zyi{w:World}{x y:Value}{t:TypeId}{A B:List Mi}{nA nB:Nat}{a1 a2:Option Addr}{c1 c2:Nat}(hx:x=.slice a1 nA c1)(hy:y=.slice a2 nB c2)(hA:A.length=nA)(hB:B.length=nB)(rA:RdM w x A)(rB:RdM w y B) :
  ∀ k (h:k<[A,B].length),∃ a c,(w.alloc (.cells #[x,y] t)).cell? ⟨w.heap.size,0+k,none⟩=some (.slice a [A,B][k].length c)/\RdM (w.alloc (.cells #[x,y] t)) (.slice a [A,B][k].length c) [A,B][k]:=by
 subst hA hB hx hy;have hb:zB w (w.alloc (.cells #[.slice a1 A.length c1,.slice a2 B.length c2] t)):=zR.alloc zL _;intro k hk
 rcases(show k=0\/k=1 by simp at hk;omega)with rfl|rfl
 ·exact⟨a1,c1,ztz.1,Rd.below rA hb⟩
 ·exact⟨a2,c2,ztz.2,Rd.below rB hb⟩
theorem yafi{A B:List Mi}(hA:zlx A)(hB:zlx B):∀ k (h:k<[A,B].length),zlx [A,B][k]:=by
 intro k hk
 rcases(show k=0\/k=1 by simp at hk;omega)with rfl|rfl
 ·exact hA
 ·exact hB
theorem zzj(v:Value)(us:List Se)(w:World)(h:RdE w v us)(hn:us.length<=16) :
  zC 135 #[v] w fun e w'=>∃ v',e=.returned v'/\Row w' 82 3 w.heap.size w'.heap.size v' (zlk us).length (mis (zlk us))/\zB w w':=by
 have HR:=zaa h;obtain⟨aU,cU,rfl,_,_⟩:=h.shape;clear h
 by_cases h0:us.length=0
 ·have E:=zaa (show zlk us=[]from if_pos h0)
  have h0':((us.length:Int) == 0)=true:=by rw[h0];rfl
  rw[E.o];clear h0;go_enter Tryz.func135,Tryz.ntmps135;go_wp2;go_ret;exact⟨_,rfl,Row.nil _ _ _ _ _,zR⟩
 ·have E:=zaa (show zlk us=zdy [jlM us us.length,[⟨1,8,(us.length:Int)⟩]] 2 by rw[yafg,yacf,<- yane,zpt,zpt];exact if_neg h0)
  have h0':((us.length:Int) == 0)=false:=by rw[beq_eq_false_iff_ne];omega
  have PK:=zaa (yafi (yazb us hn) (yafy (us.length:Int)));rw[E.o];clear h0 E;go_enter Tryz.func135,Tryz.ntmps135;go_wp2_with fail;refine(yahv _ us _ HR.o (by omega)).mono ?_;rintro e w1 ⟨v1,rfl,hr1,hb1⟩;obtain⟨a1,c1,e1⟩:=RdM.form hr1.rd (n:=(jlM us us.length).length) rfl;generalize hA:jlM us us.length=A at *;have R1:=zaa hr1.rd;have B1:=zaa hb1;clear hr1 hb1;go_wp2_with fail;refine(zkm (us.length:Int) _).mono ?_;rintro e w2 ⟨v2,rfl,hr2,hb2⟩;obtain⟨a2,c2,e2⟩:=RdM.form hr2 (n:=1) rfl;have R2:=zaa hr2;have R1':=zaa (Rd.below R1.o hb2);have B2:=zaa (zab B1.o hb2 B1.o.size);clear hr2 hb2 R1;generalize hB:([⟨1,8,(us.length:Int)⟩]:List Mi)=B at *
  have hBl:B.length=1:=by rw[<- hB];rfl
  have PT:=zaa (zyi (t:=32) e1 e2 rfl hBl R1'.o R2.o);subst e1 e2;go_wp2_with fail;refine(zjb w2.heap.size 0 2 [A,B] _ (by simp) (by simp) PT.o PK.o).mono ?_;rintro e w3 ⟨v3,rfl,hr3,hb3⟩;obtain⟨a3,c3,e3⟩:=RdM.form hr3.rd (n:=(zdy [A,B] 2).length) rfl;subst e3;have hz2:=B2.o.size;have hz3:=hb3.size;have R3:=zaa hr3;have B3:=zaa (zab (B2.o.alloc hz2 _) hb3 (by simp;omega));clear hr3 hb3;go_wp2;go_ret;subst hA hB;refine⟨_,rfl,?_,B3.o⟩;refine R3.o.wide ?_ zL;simp;omega
theorem zxh(v:Value)(us:List Se)(w:World)(h:RdE w v us)(hn:us.length<=16)(hu:∀ k (h:k<us.length),0<=us[k].at_/\us[k].at_<336) :
  zC 136 #[v] w fun e w'=>∃ v',e=.returned v'/\Row w' 82 3 w.heap.size w'.heap.size v' (appL us).length (mis (appL us))/\zB w w':=by
 have HR:=zaa h;obtain⟨aU,cU,rfl,_,_⟩:=h.shape;clear h
 by_cases h0:us.length=0
 ·have E:=zaa (show appL us=[]from if_pos h0)
  have h0':((us.length:Int) == 0)=true:=by rw[h0];rfl
  rw[E.o];clear h0 hu;go_enter Tryz.func136,Tryz.ntmps136;go_wp2;go_ret;exact⟨_,rfl,Row.nil _ _ _ _ _,zR⟩
 ·have E:=zaa (show appL us=zdy [apM us us.length,[⟨1,8,0⟩]] 2 by rw[yafg,yadg,<- yane,zpt,zpt];exact if_neg h0)
  have h0':((us.length:Int) == 0)=false:=by rw[beq_eq_false_iff_ne];omega
  have PK:=zaa (yafi (yazz us hn hu) (yafy 0));rw[E.o];clear h0 E hu;go_enter Tryz.func136,Tryz.ntmps136;go_wp2_with fail;refine(yaiu _ us _ HR.o (by omega)).mono ?_;rintro e w1 ⟨v1,rfl,hr1,hb1⟩;obtain⟨a1,c1,e1⟩:=RdM.form hr1.rd (n:=(apM us us.length).length) rfl;generalize hA:apM us us.length=A at *;have R1:=zaa hr1.rd;have B1:=zaa hb1;clear hr1 hb1;go_wp2_with fail;refine(zkm 0 _).mono ?_;rintro e w2 ⟨v2,rfl,hr2,hb2⟩;obtain⟨a2,c2,e2⟩:=RdM.form hr2 (n:=1) rfl;have R2:=zaa hr2;have R1':=zaa (Rd.below R1.o hb2);have B2:=zaa (zab B1.o hb2 B1.o.size);clear hr2 hb2 R1;generalize hB:([⟨1,8,0⟩]:List Mi)=B at *
  have hBl:B.length=1:=by rw[<- hB];rfl
  have PT:=zaa (zyi (t:=32) e1 e2 rfl hBl R1'.o R2.o);subst e1 e2;go_wp2_with fail;refine(zjb w2.heap.size 0 2 [A,B] _ (by simp) (by simp) PT.o PK.o).mono ?_;rintro e w3 ⟨v3,rfl,hr3,hb3⟩;obtain⟨a3,c3,e3⟩:=RdM.form hr3.rd (n:=(zdy [A,B] 2).length) rfl;subst e3;have hz2:=B2.o.size;have hz3:=hb3.size;have R3:=zaa hr3;have B3:=zaa (zab (B2.o.alloc hz2 _) hb3 (by simp;omega));clear hr3 hb3;go_wp2;go_ret;subst hA hB;refine⟨_,rfl,?_,B3.o⟩;refine R3.o.wide ?_ zL;simp;omega
theorem zgf(v:Value)(us:List Se)(w:World)(h:RdE w v us)(hn:us.length<=1048576) :
  zC 72 #[v] w fun e w'=>∃ v',e=.returned (.tuple #[v',.I (jpC us)])/\Row w' 82 3 w.heap.size w'.heap.size v' (jpL us).length (mis (jpL us))/\zB w w':=by
 have HR:=zaa h;obtain⟨aU,cU,rfl,_,_⟩:=h.shape;clear h
 rcases zpm us with ⟨c1,e1,e2⟩ | ⟨c1,c2,e1,e2⟩ | ⟨c1,c2,c3,e1,e2⟩ | ⟨c1,c2,c3,e1,e2⟩
 ·rw[e1,e2];clear e1 e2;go_enter Tryz.func72,Tryz.ntmps72;go_wp2;go_ret2;exact⟨_,rfl,Row.nil _ _ _ _ _,zR⟩
 ·rw[e1,e2];clear e1 e2;go_enter Tryz.func72,Tryz.ntmps72;go_wp2;go_ret2;exact⟨_,rfl,Row.nil _ _ _ _ _,zR⟩
 ·rw[e1,e2];have C3:=zaa ((yafz us).trans c3);clear c3 e1 e2;go_enter Tryz.func72,Tryz.ntmps72;go_wp2_with (go_at_call 44;refine(zjp _ us _ HR.o (by omega)).mono ?_;rw[C3.o];rintro e w1 ⟨rfl,hb1⟩);go_ret2;exact⟨_,rfl,Row.nil _ _ _ _ _,hb1⟩
 ·rw[e1,e2,yaig];have C3:=zaa ((yafz us).trans c3);have U0:=zaa (fun k (hk:k<us.length)=>show 0<=us[k].at_/\us[k].at_<336 by have:=(of_decide_eq_true c3:∀ k (h:k<us.length),(48<=us[k].at_/\us[k].at_<336)/\0<=us[k].val/\us[k].val<1099511627776) k hk;omega);have hn1:=yato us;have hn2:=yayg us;clear c3 e1 e2;go_enter Tryz.func72,Tryz.ntmps72;go_wp2_with fail;refine(zjp _ us _ HR.o (by omega)).mono ?_;rw[C3.o];rintro e w1 ⟨rfl,hb1⟩;have B1:=zaa hb1;have hz1:w.heap.size<=w1.heap.size:=hb1.size;clear hb1;go_wp2_with fail;refine(zzj _ us _ (Rd.below HR.o B1.o) (by omega)).mono ?_;rintro e w2 ⟨v2,rfl,hr2,hb2⟩;obtain⟨a2,c2,e2⟩:=RdM.form hr2.rd (n:=(zlk us).length) rfl;have R2:=zaa hr2;have B2:=zaa (zab B1.o hb2 hz1);have hz2:w1.heap.size<=w2.heap.size:=hb2.size;clear hr2 hb2;subst e2;go_wp2_with fail;refine(zxh _ us _ (Rd.below HR.o B2.o) (by omega) U0.o).mono ?_;rintro e w3 ⟨v3,rfl,hr3,hb3⟩;obtain⟨a3,c3,e3⟩:=RdM.form hr3.rd (n:=(appL us).length) rfl;have R3:=zaa hr3.rd;have R2':=zaa ((R2.o.below hb3 zL).wide hz1 zL).1;have B3:=zaa (zab B2.o hb3 (by omega));have hz3:w2.heap.size<=w3.heap.size:=hb3.size;clear hr3 hb3 R2;subst e3;go_wp2_with (at_builtin;refine zae _ rfl (.tmp 14) (.tmp 16) 32 rfl w.heap.size 82 (.agg #[.I 0,.I 0,.I 0]) 3 24 Tryz.underlying32 zbp rfl (by decide) _ (zlk us).length (mis (zlk us)) rfl R2'.o _ (appL us).length (mis (appL us)) rfl R3.o (zcj _) (by simp[maxLen];omega) (by omega) (by omega) ?_);intro v4 w4 hown4 hgr4
  have O4:Hid (w4.ownsRow w.heap.size 82 3 v4 ((zlk us).length+(appL us).length) (mis (zlk us++appL us))):=by rw[zhw];exact hown4
  have B4:=zaa (B3.o.grown hgr4 (by omega) (fun q hq=>(R2'.o.lt q hq).1));obtain⟨a4,c4,e4⟩:=RdM.form (ps:=zlk us++appL us) (by unfold RdM;rw[List.length_append];exact(zad O4.o).rd) (n:=(zlk us).length+(appL us).length) (by simp);subst e4;clear hown4 hgr4;go_wp2;go_ret2;refine⟨_,rfl,?_,B4.o⟩;rw[List.length_append];exact zad O4.o
end Go.Proofs.YtogcbbkhnpmgeaaGreatDoor
