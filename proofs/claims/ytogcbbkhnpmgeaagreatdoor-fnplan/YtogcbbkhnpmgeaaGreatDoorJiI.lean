/- A journal's plan: by the program. -/
import Derived.Test.YtogcbbkhnpmgeaaGreatDoorZBN
set_option maxRecDepth 100000
set_option maxHeartbeats 4000000
namespace Go.Proofs.YtogcbbkhnpmgeaaGreatDoor
open Go.RowKit
theorem yast(l:List St):zqx (l.map stM)=l.map (·.at_):=by simp[zqx,stM]
theorem zpl(l:List St):segM (l.map stM)=seg l:=by unfold segM seg;rw[yast]
theorem yads{l:List St}(h1:l.length<=50)(h2:∀ s∈l,0<=s.at_/\s.at_<336):znb (l.map stM) :=
 ⟨by simpa using h1,fun k hk=>by
  rw[List.getElem_map]
  exact h2 _ (List.getElem_mem _)⟩
theorem yafg(A B:List Mi):zdy [A,B] 2=segM A++segM B:=by simp[zdy]
def zlq(us:List Se):List Mi:=if us.length=0 then[]else seg (jrn 0 (zdl us))++seg (cnt (us.length:Int))
def appL(us:List Se):List Mi:=if us.length=0 then[]else zjt (zdl us)
theorem yajd(us:List Se):zct (zdl us)=zlq us++appL us:=by
 unfold zct zlq appL;rw[zbt]
 split<;>simp
theorem yasc(us:List Se):(zlq us).length<=4*us.length+4:=by
 unfold zlq seg
 split
 ·simp
 ·have h1:=zbo ((jrn 0 (zdl us)).map (·.at_));have h2:=zbo ((cnt (us.length:Int)).map (·.at_));have h3:=zkz (zdl us) 0;rw[zbt]at h3;simp only[List.length_append,List.length_map]at *;have h4:(cnt (us.length:Int)).length=1:=rfl;omega
theorem yazv(us:List Se):(appL us).length<=2*us.length+4:=by
 unfold appL
 split
 ·simp
 ·exact zne us
theorem yalj(n:Int):(cnt n).map stM=[⟨1,8,n⟩]:=rfl
theorem yagm(n:Int):znb [⟨1,8,n⟩]:=yads (l:=cnt n) (by simp[cnt]) (fun s hs=>by rw[List.mem_singleton.1 hs];exact⟨by show(0:Int)<=8;omega,by show(8:Int)<336;omega⟩)
theorem yayb(us:List Se)(hn:us.length<=16):znb (jlM us us.length):=by
 rw[yabo];refine yads (by rw[zkz,zbt];omega) (fun s hs=>?_);have:=zsb (zdl us) 0 s hs;rw[zbt]at this;omega
theorem yayz(us:List Se)(hn:us.length<=16)(hu:∀ k (h:k<us.length),0<=us[k].at_/\us[k].at_<336):znb (apM us us.length):=by
 rw[yabr];refine yads (by rw[zbt];omega) (fun s hs=>?_);obtain⟨q,hq,rfl⟩:=List.mem_map.1 (show s∈us.map (fun s=>up s.at_ s.val)from hs);obtain⟨i,hi,rfl⟩:=List.getElem_of_mem hq;exact hu i hi
theorem zuj{w:World}{x y:Value}{t:TypeId}:(w.alloc (.cells #[x,y] t)).cell? ⟨w.heap.size,0,none⟩=some x/\(w.alloc (.cells #[x,y] t)).cell? ⟨w.heap.size,1,none⟩=some y:=by
 obtain⟨a,b,-,-⟩:=zac (zaf (w:=w) (o:=.cells #[x,y] t) rfl);exact⟨a,b⟩
theorem zyf{w:World}{x y:Value}{t:TypeId}{A B:List Mi}{nA nB:Nat}{a1 a2:Option Addr}{c1 c2:Nat}(hx:x=.slice a1 nA c1)(hy:y=.slice a2 nB c2)(hA:A.length=nA)(hB:B.length=nB)(rA:RdM w x A)(rB:RdM w y B) :
  ∀ k (h:k<[A,B].length),∃ a c,(w.alloc (.cells #[x,y] t)).cell? ⟨w.heap.size,0+k,none⟩=some (.slice a [A,B][k].length c)/\RdM (w.alloc (.cells #[x,y] t)) (.slice a [A,B][k].length c) [A,B][k]:=by
 subst hA hB hx hy;have hb:zB w (w.alloc (.cells #[.slice a1 A.length c1,.slice a2 B.length c2] t)):=zR.alloc zL _;intro k hk
 rcases(show k=0\/k=1 by simp at hk;omega)with rfl|rfl
 ·exact⟨a1,c1,zuj.1,Rd.below rA hb⟩
 ·exact⟨a2,c2,zuj.2,Rd.below rB hb⟩
theorem yagf{A B:List Mi}(hA:znb A)(hB:znb B):∀ k (h:k<[A,B].length),znb [A,B][k]:=by
 intro k hk
 rcases(show k=0\/k=1 by simp at hk;omega)with rfl|rfl
 ·exact hA
 ·exact hB
theorem yaak(v:Value)(us:List Se)(w:World)(h:RdE w v us)(hn:us.length<=16) :
  zC 135 #[v] w fun e w'=>∃ v',e=.returned v'/\Row w' 82 3 w.heap.size w'.heap.size v' (zlq us).length (mis (zlq us))/\zB w w':=by
 have HR:=zaa h;obtain⟨aU,cU,rfl,_,_⟩:=h.shape;clear h
 by_cases h0:us.length=0
 ·have E:=zaa (show zlq us=[]from if_pos h0)
  have h0':((us.length:Int) == 0)=true:=by rw[h0];rfl
  rw[E.o];clear h0;go_enter Tryz.func135,Tryz.ntmps135;go_wp2;go_ret;exact⟨_,rfl,Row.nil _ _ _ _ _,zR⟩
 ·have E:=zaa (show zlq us=zdy [jlM us us.length,[⟨1,8,(us.length:Int)⟩]] 2 by rw[yafg,yabo,<- yalj,zpl,zpl];exact if_neg h0)
  have h0':((us.length:Int) == 0)=false:=by rw[beq_eq_false_iff_ne];omega
  have PK:=zaa (yagf (yayb us hn) (yagm (us.length:Int)));rw[E.o];clear h0 E;go_enter Tryz.func135,Tryz.ntmps135;go_wp2_with fail;refine(yajm _ us _ HR.o (by omega)).mono ?_;rintro e w1 ⟨v1,rfl,hr1,hb1⟩;obtain⟨a1,c1,e1⟩:=RdM.form hr1.rd (n:=(jlM us us.length).length) rfl;generalize hA:jlM us us.length=A at *;have R1:=zaa hr1.rd;have B1:=zaa hb1;clear hr1 hb1;go_wp2_with fail;refine(zkq (us.length:Int) _).mono ?_;rintro e w2 ⟨v2,rfl,hr2,hb2⟩;obtain⟨a2,c2,e2⟩:=RdM.form hr2 (n:=1) rfl;have R2:=zaa hr2;have R1':=zaa (Rd.below R1.o hb2);have B2:=zaa (zab B1.o hb2 B1.o.size);clear hr2 hb2 R1;generalize hB:([⟨1,8,(us.length:Int)⟩]:List Mi)=B at *
  have hBl:B.length=1:=by rw[<- hB];rfl
  have PT:=zaa (zyf (t:=32) e1 e2 rfl hBl R1'.o R2.o);subst e1 e2;go_wp2_with fail;refine(zjq w2.heap.size 0 2 [A,B] _ (by simp) (by simp) PT.o PK.o).mono ?_;rintro e w3 ⟨v3,rfl,hr3,hb3⟩;obtain⟨a3,c3,e3⟩:=RdM.form hr3.rd (n:=(zdy [A,B] 2).length) rfl;subst e3;have hz2:=B2.o.size;have hz3:=hb3.size;have R3:=zaa hr3;have B3:=zaa (zab (B2.o.alloc hz2 _) hb3 (by simp;omega));clear hr3 hb3;go_wp2;go_ret;subst hA hB;refine⟨_,rfl,?_,B3.o⟩;refine R3.o.wide ?_ zL;simp;omega
theorem zwv(v:Value)(us:List Se)(w:World)(h:RdE w v us)(hn:us.length<=16)(hu:∀ k (h:k<us.length),0<=us[k].at_/\us[k].at_<336) :
  zC 136 #[v] w fun e w'=>∃ v',e=.returned v'/\Row w' 82 3 w.heap.size w'.heap.size v' (appL us).length (mis (appL us))/\zB w w':=by
 have HR:=zaa h;obtain⟨aU,cU,rfl,_,_⟩:=h.shape;clear h
 by_cases h0:us.length=0
 ·have E:=zaa (show appL us=[]from if_pos h0)
  have h0':((us.length:Int) == 0)=true:=by rw[h0];rfl
  rw[E.o];clear h0 hu;go_enter Tryz.func136,Tryz.ntmps136;go_wp2;go_ret;exact⟨_,rfl,Row.nil _ _ _ _ _,zR⟩
 ·have E:=zaa (show appL us=zdy [apM us us.length,[⟨1,8,0⟩]] 2 by rw[yafg,yabr,<- yalj,zpl,zpl];exact if_neg h0)
  have h0':((us.length:Int) == 0)=false:=by rw[beq_eq_false_iff_ne];omega
  have PK:=zaa (yagf (yayz us hn hu) (yagm 0));rw[E.o];clear h0 E hu;go_enter Tryz.func136,Tryz.ntmps136;go_wp2_with fail;refine(yahy _ us _ HR.o (by omega)).mono ?_;rintro e w1 ⟨v1,rfl,hr1,hb1⟩;obtain⟨a1,c1,e1⟩:=RdM.form hr1.rd (n:=(apM us us.length).length) rfl;generalize hA:apM us us.length=A at *;have R1:=zaa hr1.rd;have B1:=zaa hb1;clear hr1 hb1;go_wp2_with fail;refine(zkq 0 _).mono ?_;rintro e w2 ⟨v2,rfl,hr2,hb2⟩;obtain⟨a2,c2,e2⟩:=RdM.form hr2 (n:=1) rfl;have R2:=zaa hr2;have R1':=zaa (Rd.below R1.o hb2);have B2:=zaa (zab B1.o hb2 B1.o.size);clear hr2 hb2 R1;generalize hB:([⟨1,8,0⟩]:List Mi)=B at *
  have hBl:B.length=1:=by rw[<- hB];rfl
  have PT:=zaa (zyf (t:=32) e1 e2 rfl hBl R1'.o R2.o);subst e1 e2;go_wp2_with fail;refine(zjq w2.heap.size 0 2 [A,B] _ (by simp) (by simp) PT.o PK.o).mono ?_;rintro e w3 ⟨v3,rfl,hr3,hb3⟩;obtain⟨a3,c3,e3⟩:=RdM.form hr3.rd (n:=(zdy [A,B] 2).length) rfl;subst e3;have hz2:=B2.o.size;have hz3:=hb3.size;have R3:=zaa hr3;have B3:=zaa (zab (B2.o.alloc hz2 _) hb3 (by simp;omega));clear hr3 hb3;go_wp2;go_ret;subst hA hB;refine⟨_,rfl,?_,B3.o⟩;refine R3.o.wide ?_ zL;simp;omega
theorem zge(v:Value)(us:List Se)(w:World)(h:RdE w v us)(hn:us.length<=1048576) :
  zC 72 #[v] w fun e w'=>∃ v',e=.returned (.tuple #[v',.I (jpC us)])/\Row w' 82 3 w.heap.size w'.heap.size v' (jpL us).length (mis (jpL us))/\zB w w':=by
 have HR:=zaa h;obtain⟨aU,cU,rfl,_,_⟩:=h.shape;clear h
 rcases zpt us with ⟨c1,e1,e2⟩ | ⟨c1,c2,e1,e2⟩ | ⟨c1,c2,c3,e1,e2⟩ | ⟨c1,c2,c3,e1,e2⟩
 ·rw[e1,e2];clear e1 e2;go_enter Tryz.func72,Tryz.ntmps72;go_wp2;go_ret2;exact⟨_,rfl,Row.nil _ _ _ _ _,zR⟩
 ·rw[e1,e2];clear e1 e2;go_enter Tryz.func72,Tryz.ntmps72;go_wp2;go_ret2;exact⟨_,rfl,Row.nil _ _ _ _ _,zR⟩
 ·rw[e1,e2];have C3:=zaa ((yagg us).trans c3);clear c3 e1 e2;go_enter Tryz.func72,Tryz.ntmps72;go_wp2_with (go_at_call 44;refine(ziw _ us _ HR.o (by omega)).mono ?_;rw[C3.o];rintro e w1 ⟨rfl,hb1⟩);go_ret2;exact⟨_,rfl,Row.nil _ _ _ _ _,hb1⟩
 ·rw[e1,e2,yajd];have C3:=zaa ((yagg us).trans c3);have U0:=zaa (fun k (hk:k<us.length)=>show 0<=us[k].at_/\us[k].at_<336 by have:=(of_decide_eq_true c3:∀ k (h:k<us.length),(48<=us[k].at_/\us[k].at_<336)/\0<=us[k].val/\us[k].val<1099511627776) k hk;omega);have hn1:=yasc us;have hn2:=yazv us;clear c3 e1 e2;go_enter Tryz.func72,Tryz.ntmps72;go_wp2_with fail;refine(ziw _ us _ HR.o (by omega)).mono ?_;rw[C3.o];rintro e w1 ⟨rfl,hb1⟩;have B1:=zaa hb1;have hz1:w.heap.size<=w1.heap.size:=hb1.size;clear hb1;go_wp2_with fail;refine(yaak _ us _ (Rd.below HR.o B1.o) (by omega)).mono ?_;rintro e w2 ⟨v2,rfl,hr2,hb2⟩;obtain⟨a2,c2,e2⟩:=RdM.form hr2.rd (n:=(zlq us).length) rfl;have R2:=zaa hr2;have B2:=zaa (zab B1.o hb2 hz1);have hz2:w1.heap.size<=w2.heap.size:=hb2.size;clear hr2 hb2;subst e2;go_wp2_with fail;refine(zwv _ us _ (Rd.below HR.o B2.o) (by omega) U0.o).mono ?_;rintro e w3 ⟨v3,rfl,hr3,hb3⟩;obtain⟨a3,c3,e3⟩:=RdM.form hr3.rd (n:=(appL us).length) rfl;have R3:=zaa hr3.rd;have R2':=zaa ((R2.o.below hb3 zL).wide hz1 zL).1;have B3:=zaa (zab B2.o hb3 (by omega));have hz3:w2.heap.size<=w3.heap.size:=hb3.size;clear hr3 hb3 R2;subst e3;go_wp2_with (at_builtin;refine zae _ rfl (.tmp 14) (.tmp 16) 32 rfl w.heap.size 82 (.agg #[.I 0,.I 0,.I 0]) 3 24 Tryz.underlying32 zbp rfl (by decide) _ (zlq us).length (mis (zlq us)) rfl R2'.o _ (appL us).length (mis (appL us)) rfl R3.o (zcj _) (by simp[maxLen];omega) (by omega) (by omega) ?_);intro v4 w4 hown4 hgr4
  have O4:Hid (w4.ownsRow w.heap.size 82 3 v4 ((zlq us).length+(appL us).length) (mis (zlq us++appL us))):=by rw[zhh];exact hown4
  have B4:=zaa (B3.o.grown hgr4 (by omega) (fun q hq=>(R2'.o.lt q hq).1));obtain⟨a4,c4,e4⟩:=RdM.form (ps:=zlq us++appL us) (by unfold RdM;rw[List.length_append];exact(zad O4.o).rd) (n:=(zlq us).length+(appL us).length) (by simp);subst e4;clear hown4 hgr4;go_wp2;go_ret2;refine⟨_,rfl,?_,B4.o⟩;rw[List.length_append];exact zad O4.o
end Go.Proofs.YtogcbbkhnpmgeaaGreatDoor
