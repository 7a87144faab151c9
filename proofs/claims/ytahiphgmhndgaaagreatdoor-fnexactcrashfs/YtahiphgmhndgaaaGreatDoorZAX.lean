/- Several texts laid together: JrP, JrQ, JrC, DtA, RdB. -/
import Derived.Test.YtahiphgmhndgaaaGreatDoorZAO
import Derived.Test.YtahiphgmhndgaaaGreatDoorZAB
import Derived.Deep.RegionHeld3
import Derived.Test.YtahiphgmhndgaaaGreatDoorZAE
import Derived.Test.YtahiphgmhndgaaaGreatDoorZAT
import Derived.Test.YtahiphgmhndgaaaGreatDoorZAK
import Derived.Test.YtahiphgmhndgaaaGreatDoorZAI
import Derived.Test.YtahiphgmhndgaaaGreatDoorZAQ
import Derived.Test.YtahiphgmhndgaaaGreatDoorZAU
import Derived.Test.YtahiphgmhndgaaaGreatDoorZAW
import Derived.Test.YtahiphgmhndgaaaGreatDoorZAG
import Derived.Maps.Views
import Derived.Deep.LoopGhost
import Derived.Laws.OwnMore
import Derived.Lib.SplitLaws
import Derived.Lib.IndexBytes
import Derived.BigQuiet
import Derived.Sort.Walk0
import Derived.Laws.Cover1
import Derived.Test.YtahiphgmhndgaaaGreatDoorZAJ
import Derived.Deep.DeepCutAuto
set_option maxRecDepth 100000
set_option maxHeartbeats 4000000
namespace Go.Proofs.YtahiphgmhndgaaaGreatDoor
open Go.RowKit
theorem zmt (a x:Int) (w:World):Calls Tryz.prog 119 #[.int .i64 a,.int .i64 x] w fun e w'=>e=.returned (.agg #[.int .i64 1,.int .i64 a,.int .i64 x])∧Below w.heap.size w w':=by
 go_enter Tryz.func119,Tryz.ntmps119;go_wp2;refine bodyPost_ret (v:=.agg #[.int .i64 1,.int .i64 a,.int .i64 x]) (by simp[results,Tryz.results119,go_sem]) rfl ⟨rfl,?_⟩
 repeat (refine Below.alloc ?_ (by simp <;> omega) _)
 exact Below.refl _ _
def upsB (us:List Se):Bool:=decide (∀ k (h:k < us.length),(48≤us[k].at_∧us[k].at_ < 336)∧0≤us[k].val∧us[k].val < 1099511627776)
theorem zrq (v:Value) (us:List Se) (w:World) (h:RdE w v us) (hn:us.length≤1048576) :
  Calls Tryz.prog 83 #[v] w fun e w'=>e=.returned (.bool (upsB us))∧w'=w:=by
 obtain ⟨aZ,cZ,rfl,_,hcZ⟩:=h.shape;have HZ:=zaa hcZ;clear h hcZ;go_enter Tryz.func83,Tryz.ntmps83;go_wp2
 go_loop [3] (fun i=>∃ k:Nat,k≤us.length∧i=.int .i64 k∧Hid (∀ j (h:j < us.length),j < k→(48≤us[j].at_∧us[j].at_ < 336)∧0≤us[j].val∧us[j].val < 1099511627776)) (fun i=>us.length - (intOf i).toNat)
 case atStart=>exact ⟨0,by omega,rfl,fun j h a=>absurd a (by omega)⟩
 case round =>
  obtain ⟨k,hk,rfl,H⟩:=hrel
  by_cases hlt:k < us.length
  ·obtain ⟨b,o,rfl,hbl,hcell⟩:=HZ.o (by omega);obtain ⟨d0,d1⟩:=hcell k hlt
   have k0:(0:Int)≤(k:Int):=by omega
   have k1:(k:Int) < (us.length:Int):=by omega
   clear hcell
   have NO:Hid (¬ ((48≤us[k].at_∧us[k].at_ < 336)∧0≤us[k].val∧us[k].val < 1099511627776)→upsB us=false):=fun x=>decide_eq_false (fun y=>x (y k hlt))
   have NX:Hid ((48≤us[k].at_∧us[k].at_ < 336)∧0≤us[k].val∧us[k].val < 1099511627776→∀ j (h:j < us.length),j < k+1→(48≤us[j].at_∧us[j].at_ < 336)∧0≤us[j].val∧us[j].val < 1099511627776):=fun hx j h b=>by
    by_cases e:j=k
    ·subst e;exact hx
    ·exact H.o j h (by omega)
   generalize us[k].at_=x at *;generalize us[k].val=y at *
   by_cases q:48≤x∧x≤335
   ·have Q:=zaa q;clear q
    by_cases r:zao y=true
    ·have R:=zaa r;have YB:=zlw r;go_wp2_with (first | (go_at_call 43;refine (zaz _ _ _ _ Q.o).mono ?_;rintro e w' ⟨rfl,rfl⟩) | (go_at_call 108;refine (zbf _ _).mono ?_;rw[R.o];rintro e w' ⟨rfl,rfl⟩))
     go_round
     case rel=>exact ⟨k+1,by omega,by go_num,NX.o (by have:=Q.o;omega)⟩
     case measure=>simp[intOf];omega
    ·have r':zao y=false:=by simpa using r
     have R:=zaa r';have E:=zaa (NO.o (fun z=>r (decide_eq_true z.2)));clear r r';go_wp2_with (first | (go_at_call 43;refine (zaz _ _ _ _ Q.o).mono ?_;rintro e w' ⟨rfl,rfl⟩) | (go_at_call 108;refine (zbf _ _).mono ?_;rw[R.o];rintro e w' ⟨rfl,rfl⟩));go_ret;exact ⟨zae E.o.symm,rfl⟩
   ·have Q:=zaa q;have E:=zaa (NO.o (fun z=>q (by omega)));clear q;go_wp2_with (go_at_call 43;refine (zeb _ _ _ _ Q.o).mono ?_;rintro e w' ⟨rfl,rfl⟩);go_ret;exact ⟨zae E.o.symm,rfl⟩
  ·have E:=zaa (show upsB us=true from decide_eq_true (fun j h=>H.o j h (by omega)));go_wp2;go_ret;exact ⟨zae E.o.symm,rfl⟩
def zwm (us:List Se):List St:=us.map (fun s=>up s.at_ s.val)
theorem zio (us:List Se):(zwm us).length=us.length:=by simp[zwm]
theorem yaje (us:List Se) (k:Nat) (h:k < us.length):(zwm us)[k]?=some (up us[k].at_ us[k].val):=by simp[zwm,h]
def apM (us:List Se) (m:Nat):List Mi:=((zwm us).take m).map stM
def apP (us:List Se) (m:Nat):List Int:=((zwm us).take m).map (·.at_)
theorem yaaz (us:List Se) (m:Nat):(apM us m).length≤m:=by simp[apM];omega
theorem yakr (us:List Se) (m:Nat):(apP us m).length≤m:=by simp[apP];omega
theorem zyc {α:Type} (l:List α) (m:Nat) (x:α) (h:l[m]?=some x):l.take (m+1)=l.take m ++ [x]:=by
 rw[List.take_add_one,h];rfl
theorem yack (us:List Se) (m:Nat) (h:m < us.length):apM us (m+1)=apM us m ++ [⟨1,us[m].at_,us[m].val⟩]:=by
 unfold apM;rw[zyc _ _ _ (yaje us m h),List.map_append];rfl
theorem yaof (us:List Se) (m:Nat) (h:m < us.length):apP us (m+1)=apP us m ++ [us[m].at_]:=by
 unfold apP;rw[zyc _ _ _ (yaje us m h),List.map_append];rfl
theorem zzx (us:List Se):apM us us.length=(zwm us).map stM:=by unfold apM;rw[List.take_of_length_le (by rw[zio];omega)]
theorem yarx (us:List Se):apP us us.length=(zwm us).map (·.at_):=by unfold apP;rw[List.take_of_length_le (by rw[zio];omega)]
theorem yalr (us:List Se) (m:Nat) (hz:∀ k (h:k < us.length),0≤us[k].at_∧us[k].at_ < 336):∀ k (h:k < (apP us m).length),0≤(apP us m)[k]∧(apP us m)[k] < 336:=by
 intro k h;have h':=h;simp only[apP,List.length_map,List.length_take,zio] at h';have:=hz k (by omega);simpa[apP,zwm,up] using this
structure PlI (w0 w:World) (vL vP:Value) (ls:List Mi) (ps:List Int):Prop where
 l:w.ownsRow w0.heap.size 98 3 vL ls.length (mis ls)
 p:w.ownsRow w0.heap.size 3 1 vP ps.length (zav ps)
 b:Below w0.heap.size w0 w
 z:w0.heap.size≤w.heap.size
theorem yauf:(3:Nat)≠98:=by decide
theorem PlI.below {w0 w w':World} {vL vP:Value} {ls:List Mi} {ps:List Int} (h:PlI w0 w vL vP ls ps) (hb:Below w.heap.size w w'):PlI w0 w' vL vP ls ps :=
 ⟨((zai h.l).below hb (Nat.le_refl _)).1,((zai h.p).below hb (Nat.le_refl _)).1,zab h.b hb h.z,Nat.le_trans h.z hb.size⟩
theorem PlI.growL {w0 w w':World} {vL vP v':Value} {ls:List Mi} {ps:List Int} (h:PlI w0 w vL vP ls ps) (ms:List Mi) (ho:w'.ownsRow w0.heap.size 98 3 v' (ls.length+ms.length) (mis ls ++ mis ms)) (hg:w.grownBy w' vL.ownBlock):PlI w0 w' v' vP (ls ++ ms) ps :=
 ⟨by rw[zsw,List.length_append];exact ho,(Row.apart (zai h.p) (zai h.l) yauf hg).1,h.b.grown hg h.z (fun q hq=>(h.l.lt q hq).1),Nat.le_trans h.z hg.size⟩
theorem PlI.growP {w0 w w':World} {vL vP v':Value} {ls:List Mi} {ps:List Int} (h:PlI w0 w vL vP ls ps) (ks:List Int) (ho:w'.ownsRow w0.heap.size 3 1 v' (ps.length+ks.length) (zav ps ++ zav ks)) (hg:w.grownBy w' vP.ownBlock):PlI w0 w' vL v' ls (ps ++ ks) :=
 ⟨(Row.apart (zai h.l) (zai h.p) (Ne.symm yauf) hg).1,by rw[List.length_append,show zav (ps ++ ks)=zav ps ++ zav ks by simp[zav]];exact ho,h.b.grown hg h.z (fun q hq=>(h.p.lt q hq).1),Nat.le_trans h.z hg.size⟩
theorem zko {w w':World} (h:Below w.drew.heap.size w.drew w'):Below w.heap.size w w':=zab ((Below.refl w.heap.size w).drew) h (Nat.le_refl _)
theorem yabj (w1:World) (x:Int):RdI (w1.alloc (.cells #[.int .i64 x] 3)) (.slice (some ⟨w1.heap.size,0,none⟩) 1 1) [x]:=by
 refine ⟨rfl,_,_,rfl,⟨Nat.le_refl _,fun e=>by cases e⟩,fun _=>⟨w1.heap.size,0,rfl,by simp,fun j hj=>?_⟩⟩
 obtain rfl:j=0:=by simp at hj;omega
 have e:=zag (w:=w1) (o:=.cells #[.int .i64 x] 3) rfl;unfold World.cell?;simp only[e];rfl
theorem zof (m:Mi):mis [m]=m.cells:=by simp[mis]
theorem zwj (v:Value) (us:List Se) (w:World) (h:RdE w v us) (hn:us.length≤64) (hz0:∀ k (h:k < us.length),0≤us[k].at_∧us[k].at_ < 336) :
  Calls Tryz.prog 84 #[v] w fun e w'=>∃ v',e=.returned v'∧Row w' 98 3 w.heap.size w'.heap.size v' (zhd (zwm us)).length (mis (zhd (zwm us)))∧Below w.heap.size w w':=by
 obtain ⟨aZ,cZ,rfl,_,hcZ⟩:=h.shape;have HZ:=zaa hcZ;have Z0:=zaa hz0;clear h hcZ hz0
 have START:Hid (PlI w ((w.alloc (.cells #[] 98)).alloc (.cells #[] 3)) (.slice (some ⟨w.heap.size,0,none⟩) 0 0) (.slice (some ⟨w.heap.size+1,0,none⟩) 0 0) [] []):=by
  refine ⟨?_,?_,((Below.refl w.heap.size w).alloc (Nat.le_refl _) _).alloc (by simp) _,by simp <;> omega⟩
  ·exact ((zph w 98 3).alloc (Nat.le_refl _) _).1
  ·simpa[zav] using World.ownsRow_lit (base:=w.heap.size) (e:=3) (size:=1) (w.alloc (.cells #[] 98)) #[] 0 (by simp) (by simp) (by simp)
 go_enter Tryz.func84,Tryz.ntmps84;go_wp2
 go_loopw [3,4,5] (fun vL vP i wr=>∃ m:Nat,m≤us.length∧i=.int .i64 m∧Hid (PlI w wr vL vP (apM us m) (apP us m))∧w.heap.size≤wr.heap.size) (fun _ _ i _=>us.length - (intOf i).toNat)
 case atStart=>exact ⟨0,by omega,rfl,by simpa[apM,apP] using START,by simp <;> omega⟩
 case round =>
  obtain ⟨m,hm,rfl,J,hz⟩:=hrel
  by_cases hlt:m < us.length
  ·obtain ⟨b,o,rfl,hbl,hcell⟩:=HZ.o (by omega);have C0:=(J.o.b.cell (p:=⟨b,o+m*2,none⟩) hbl).trans (hcell m hlt).1;have C1:=(J.o.b.cell (p:=⟨b,o+m*2+1,none⟩) hbl).trans (hcell m hlt).2;have EM:=zaa (yack us m hlt);have EP:=zaa (yaof us m hlt);have l1:=yaaz us m;have l2:=yakr us m
   have hbr:b < wr.heap.size:=by omega
   have DW:=zaa (hcell m hlt);clear hcell
   have m0:(0:Int)≤(m:Int):=by omega
   have m1:(m:Int) < (us.length:Int):=by omega
   generalize us[m].at_=x at *;generalize us[m].val=y at *;go_wp2_with fail
   go_region_held3 (fun w'=>w'.cell? ⟨b,o+m*2,none⟩=some (.int .i64 x)∧w'.cell? ⟨b,o+m*2+1,none⟩=some (.int .i64 y)) (first | exact ⟨C0,C1⟩ | exact ⟨s0,s1⟩ | exact ⟨r0,r1⟩ | exact ⟨q0,q1⟩)
    (first
     | (go_at_call 119;refine (zmt _ _ _).mono ?_;rintro e w1 ⟨rfl,hb1⟩;have hb1':=zko hb1;have q0:=(hb1'.cell (p:=⟨b,o+m*2,none⟩) hbr).trans C0;have q1:=(hb1'.cell (p:=⟨b,o+m*2+1,none⟩) hbr).trans C1;have P1:=zaa ((J.o.below hb1').below ((Below.refl _ _).alloc (Nat.le_refl _) (.cells #[.int .i64 1,.int .i64 x,.int .i64 y] 98)));have HRD:=zaa (zmx w1 1 x y);have r0:=(P1.o.b.cell (p:=⟨b,o+m*2,none⟩) hbl).trans DW.o.1;have r1:=(P1.o.b.cell (p:=⟨b,o+m*2+1,none⟩) hbl).trans DW.o.2;have hz1:=P1.o.z;clear hb1 hb1')
     | (refine zbx rfl (.tmp 14) (.tmp 26) 48 rfl w.heap.size 98 (.agg #[.int .i64 0,.int .i64 0,.int .i64 0]) 3 24 Tryz.underlying48 zem rfl (by decide) _ _ _ rfl P1.o.l _ 1 _ rfl HRD.o (zju _) (by simp[maxLen];omega) (by omega) hz1 ?_;intro vN wN hownN hgrN;have G:=zaa (P1.o.growL [⟨1,x,y⟩] (by rw[zof];exact hownN) hgrN);have s0:=(G.o.b.cell (p:=⟨b,o+m*2,none⟩) hbl).trans DW.o.1;have s1:=(G.o.b.cell (p:=⟨b,o+m*2+1,none⟩) hbl).trans DW.o.2;clear hownN hgrN))
   all_goals
    have hzG:=G.o.z;clear C0 C1 q0 q1 r0 r1 P1 HRD J;have P2:=zaa (G.o.below ((Below.refl _ _).alloc (Nat.le_refl _) (.cells #[.int .i64 x] 3)));have HR2:=zaa (yabj wN x);have hz2:=P2.o.z;clear G;go_wp2_with (at_builtin;refine zak _ rfl (.tmp 28) (.tmp 34) 22 rfl w.heap.size 3 (.int .i64 0) 1 8 Tryz.underlying22 zfz rfl (by decide) _ _ _ rfl P2.o.p _ 1 _ rfl HR2.o (zdw _) (by simp[maxLen];omega) (by omega) hz2 ?_);intro vQ wQ hownQ hgrQ;have G2:=zaa (P2.o.growP [x] hownQ hgrQ);rw[← EM.o,← EP.o] at G2;have hz3:=G2.o.z;clear hownQ hgrQ P2 HR2;go_wp2
    go_roundw
    case rel=>exact ⟨m+1,by omega,by go_num,G2,hz3⟩
    case measure=>simp[intOf];omega
  ·obtain rfl:m=us.length:=by omega
   have PL:=zaa (yalr us us.length Z0.o);have l1:=yaaz us us.length;have l2:=yakr us us.length
   have EE:=zaa (show zhd (zwm us)=apM us us.length ++ zcv (apP us us.length) ++ [⟨1,8,0⟩] ++ zcv [8] by
    rw[zzx,yarx];simp[zhd,seg,cnt,stM])
   have l3:=zfl (apP us us.length);have l4:=zfl [8];simp only[List.length_cons,List.length_nil] at l4;generalize apM us us.length=A at *;generalize apP us us.length=B at *;go_wp2_with fail;refine (zmu _ B _ (zai J.o.p).rd (by omega) PL.o).mono ?_;rintro e w1 ⟨v1,rfl,hr1,hb1⟩;have P1:=zaa (J.o.below hb1);have R1:=zaa hr1.rd;have hz1:=P1.o.z;clear hr1 hb1 J;go_wp2_with (at_builtin;refine zak _ rfl (.tmp 36) (.tmp 38) 48 rfl w.heap.size 98 (.agg #[.int .i64 0,.int .i64 0,.int .i64 0]) 3 24 Tryz.underlying48 zem rfl (by decide) _ _ _ rfl P1.o.l _ _ _ rfl R1.o (zmf _) (by simp[maxLen];omega) (by omega) hz1 ?_);intro v2 w2 hown2 hgr2;have P2:=zaa (P1.o.growL _ hown2 hgr2);have hz2:=P2.o.z
   have l5:(A ++ zcv B).length≤200:=by simp;omega
   generalize A ++ zcv B=C at *;clear hown2 hgr2 P1 R1;go_wp2_with fail;refine (zmt _ _ _).mono ?_;rintro e w3 ⟨rfl,hb3⟩;have P3:=zaa ((P2.o.below hb3).below ((Below.refl _ _).alloc (Nat.le_refl _) (.cells #[.int .i64 1,.int .i64 8,.int .i64 0] 98)));have R3:=zaa (zmx w3 1 8 0);have hz3:=P3.o.z;clear hb3 P2;go_wp2_with (at_builtin;refine zak _ rfl (.tmp 40) (.tmp 42) 48 rfl w.heap.size 98 (.agg #[.int .i64 0,.int .i64 0,.int .i64 0]) 3 24 Tryz.underlying48 zem rfl (by decide) _ _ _ rfl P3.o.l _ 1 _ rfl R3.o (zju _) (by simp[maxLen];omega) (by omega) hz3 ?_);intro v4 w4 hown4 hgr4;have P4:=zaa (P3.o.growL [⟨1,8,0⟩] (by rw[zof];exact hown4) hgr4)
   have l6:(C ++ [(⟨1,8,0⟩:Mi)]).length≤201:=by simp;omega
   generalize C ++ [(⟨1,8,0⟩:Mi)]=D at *;have P5:=zaa (P4.o.below ((Below.refl _ _).alloc (Nat.le_refl _) (.cells #[.int .i64 8] 3)));have R5:=zaa (yabj w4 8);clear hown4 hgr4 P3 R3 P4;go_wp2_with fail;refine (zmu _ [8] _ R5.o (by simp) (by intro k h;simp at h;subst h;simp)).mono ?_;rintro e w6 ⟨v6,rfl,hr6,hb6⟩;have P6:=zaa (P5.o.below hb6);have R6:=zaa hr6.rd;have hz6:=P6.o.z;clear hr6 hb6 P5 R5;go_wp2_with (at_builtin;refine zak _ rfl (.tmp 44) (.tmp 46) 48 rfl w.heap.size 98 (.agg #[.int .i64 0,.int .i64 0,.int .i64 0]) 3 24 Tryz.underlying48 zem rfl (by decide) _ _ _ rfl P6.o.l _ _ _ rfl R6.o (zmf _) (by simp[maxLen];omega) (by omega) hz6 ?_);intro v7 w7 hown7 hgr7;have P7:=zaa (P6.o.growL _ hown7 hgr7);rw[← EE.o] at P7;obtain ⟨aL,cL,hvL⟩:=RdM.form (zai P7.o.l).rd rfl;subst hvL;clear hown7 hgr7 P6 R6;go_wp2;go_ret;exact ⟨_,rfl,zai P7.o.l,P7.o.b⟩
def ldW (ws:List Int) (ps:List St) (k:Nat):Int:=ziv (k:Int) (ws[k]?.getD 0) ps
theorem zwx {ws:List Int} {ps:List St} {k:Nat} (h:k < ws.length):ldW ws ps k=ziv (k:Int) ws[k] ps:=by unfold ldW;simp[h]
theorem zyt {ws:List Int} {ps:List St} (h:pmB ws ps=true):ws.length=336:=(zbz h).1
theorem zid (v:Value) (ws:List Int) (ps:List St) (w:World) (h:RdPm w v ws ps) (hw:ws.length≤1048576) (hp:ps.length≤1048576) (ha:8 < ws.length) :
  Calls Tryz.prog 63 #[v] w fun e w'=>e=.returned (.int .i64 (ldW ws ps 8))∧Below w.heap.size w w':=by
 have HR:=zaa h;obtain ⟨vW,vP,rfl,h1,h2⟩:=h;obtain ⟨aW,cW,rfl,_⟩:=h1.shape;obtain ⟨aP,cP,rfl,_⟩:=h2.shape;clear h1 h2;have hb0:Below w.heap.size w (w.alloc (.cells #[.slice aW ws.length cW,.slice aP ps.length cP] 40)):=(Below.refl _ _).alloc (Nat.le_refl _) _;rw[zwx ha];go_enter Tryz.func63,Tryz.ntmps63;go_wp2_with fail;refine (zji _ ws ps 8 _ (HR.o.below hb0) hw hp ha).mono ?_;rintro e w2 ⟨rfl,hb2⟩;go_wp2;go_ret;exact ⟨rfl,zab hb0 hb2 (by simp)⟩
def jcC (ws:List Int) (ps:List St):Int:=if pmB ws ps=false then 1 else if 16 < ldW ws ps 8 then 3 else 0
def jcV (ws:List Int) (ps:List St):Int:=if jcC ws ps=0 then ldW ws ps 8 else 0
theorem zty (ws:List Int) (ps:List St):(pmB ws ps=false∧jcC ws ps=1∧jcV ws ps=0)∨(pmB ws ps=true∧16 < ldW ws ps 8∧jcC ws ps=3∧jcV ws ps=0)∨(pmB ws ps=true∧¬ 16 < ldW ws ps 8∧jcC ws ps=0∧jcV ws ps=ldW ws ps 8):=by
 by_cases c1:pmB ws ps=true
 ·by_cases c2:16 < ldW ws ps 8
  ·have e:jcC ws ps=3:=by unfold jcC;rw[if_neg (by rw[c1];simp),if_pos c2]
   exact .inr (.inl ⟨c1,c2,e,by unfold jcV;rw[e];rfl⟩)
  ·have e:jcC ws ps=0:=by unfold jcC;rw[if_neg (by rw[c1];simp),if_neg c2]
   exact .inr (.inr ⟨c1,c2,e,by unfold jcV;rw[e];rfl⟩)
 ·have c:pmB ws ps=false:=by simpa using c1
  have e:jcC ws ps=1:=by unfold jcC;rw[if_pos c]
  exact .inl ⟨c,e,by unfold jcV;rw[e];rfl⟩
def dvB (ws:List Int) (ps:List St) (es:List Int) (qs:List Se):Bool:=(pmB ws ps && zbp es qs) && riB (zcq ws ps)
theorem zjx {a b c:World} (h1:Below a.heap.size a b) (h2:Below b.heap.size b c):Below a.heap.size a c:=zab h1 h2 h1.size
structure RimI (W w:World) (bM:Nat) (vI vD:Value) (xs:List Ino) (ds:List Den):Prop where
 m:w.heap[bM]?=some (.cells #[vI,vD] 102 (0,0))
 i:w.ownsRow W.heap.size 187 11 vI xs.length (inos xs)
 d:w.ownsRow W.heap.size 189 3 vD ds.length (zhh ds)
 b:Below W.heap.size W w
 hb:W.heap.size≤bM
theorem RimI.lt {W w:World} {bM:Nat} {vI vD:Value} {xs:List Ino} {ds:List Den} (h:RimI W w bM vI vD xs ds):bM < w.heap.size:=(Array.getElem?_eq_some_iff.1 h.m).1
theorem RimI.z {W w:World} {bM:Nat} {vI vD:Value} {xs:List Ino} {ds:List Den} (h:RimI W w bM vI vD xs ds):W.heap.size≤w.heap.size:=h.b.size
theorem RimI.below {W w w':World} {bM:Nat} {vI vD:Value} {xs:List Ino} {ds:List Den} (h:RimI W w bM vI vD xs ds) (hb:Below w.heap.size w w'):RimI W w' bM vI vD xs ds :=
 ⟨(hb.block _ h.lt).trans h.m,((zai h.i).below hb (Nat.le_refl _)).1,((zai h.d).below hb (Nat.le_refl _)).1,zab h.b hb h.z,h.hb⟩
theorem zdk {w:World} {base:Nat} {e t:TypeId} {size:Nat} {v:Value} {n:Nat} {xs:List Value} {b:Nat} {cs:Array Value} {fr:Nat×Nat} (h:w.ownsRow base e size v n xs) (hb:w.heap[b]?=some (.cells cs t fr)) (hne:e≠t):v.ownBlock≠some b:=by
 intro hv;obtain ⟨_,h1 | ⟨g,cap,cur,e1,_,hg,_⟩⟩:=h
 ·rw[h1.1] at hv;cases hv
 ·rw[e1] at hv
  have:g=b:=by simpa[Value.ownBlock] using hv
  subst this;rw[hg] at hb;injection hb with hb;injection hb with _ ht _;exact hne ht
theorem zlu:(187:Nat)≠102:=by decide
theorem zlk:(189:Nat)≠102:=by decide
theorem yald:(187:Nat)≠189:=by decide
theorem yapr (l l':List Ino):inos (l ++ l')=inos l ++ inos l':=by simp[inos]
theorem zxs (l:List Ino):∀ u∈inos l,u.oneCell'=true:=by
 intro u hu;simp only[inos,List.mem_flatMap] at hu;obtain ⟨m,_,hm⟩:=hu;simp[Ino.cs] at hm
 rcases hm with rfl | rfl | rfl | rfl | rfl | rfl | rfl | rfl | rfl | rfl | rfl <;> rfl
theorem RimI.growI {W w w':World} {bM:Nat} {vI vD v':Value} {xs:List Ino} {ds:List Den} (h:RimI W w bM vI vD xs ds) (x:Ino) (ho:w'.ownsRow W.heap.size 187 11 v' (xs.length+1) (inos xs ++ inos [x])) (hg:w.grownBy w' vI.ownBlock) :
  w'.heap[bM]?=some (.cells #[vI,vD] 102 (0,0))∧RimI W (w'.setCell ⟨bM,0,none⟩ v') bM v' vD (xs ++ [x]) ds:=by
 have hm:w'.heap[bM]?=some (.cells #[vI,vD] 102 (0,0)):=(hg.block _ h.lt (zdk h.i h.m zlu).symm).trans h.m;have hd:=(Row.apart (zai h.d) (zai h.i) (Ne.symm yald) hg).1;have hbw:=h.b.grown hg h.z (fun q hq=>(h.i.lt q hq).1);have hm2:(w'.setCell ⟨bM,0,none⟩ v').heap[bM]?=some (.cells #[v',vD] 102 (0,0)):=zci (xs:=[vI,vD]) hm 0 v';refine ⟨hm,hm2,?_,?_,hbw.setCell h.hb _,h.hb⟩
 ·rw[yapr,List.length_append];exact ownsRow_setCell_other ho (zdk ho hm zlu) _
 ·exact ownsRow_setCell_other hd (zdk hd hm zlk) _
theorem RimI.growD {W w w':World} {bM:Nat} {vI vD v':Value} {xs:List Ino} {ds:List Den} (h:RimI W w bM vI vD xs ds) (x:Den) (ho:w'.ownsRow W.heap.size 189 3 v' (ds.length+1) (zhh ds ++ zhh [x])) (hg:w.grownBy w' vD.ownBlock) :
  w'.heap[bM]?=some (.cells #[vI,vD] 102 (0,0))∧RimI W (w'.setCell ⟨bM,1,none⟩ v') bM vI v' xs (ds ++ [x]):=by
 have hm:w'.heap[bM]?=some (.cells #[vI,vD] 102 (0,0)):=(hg.block _ h.lt (zdk h.d h.m zlk).symm).trans h.m;have hd:=(Row.apart (zai h.i) (zai h.d) yald hg).1;have hbw:=h.b.grown hg h.z (fun q hq=>(h.d.lt q hq).1);have hm2:(w'.setCell ⟨bM,1,none⟩ v').heap[bM]?=some (.cells #[vI,v'] 102 (0,0)):=zci (xs:=[vI,vD]) hm 1 v';refine ⟨hm,hm2,?_,?_,hbw.setCell h.hb _,h.hb⟩
 ·exact ownsRow_setCell_other hd (zdk hd hm zlu) _
 ·rw[zkd,List.length_append];exact ownsRow_setCell_other ho (zdk ho hm zlk) _
theorem zan {a w:World} (h:Below a.heap.size a w) (o:Obj):Below a.heap.size a (w.alloc o):=h.alloc h.size o
structure BoxZ (t:TypeId) (wr w:World) (b:Nat) (cs:List Value):Prop where
 ge:wr.heap.size≤b
 at_:w.heap[b]?=some (.cells cs.toArray t (0,0))
theorem BoxZ.new {t:TypeId} {wr Y:World} {cs:List Value} (h:Below wr.heap.size wr Y):BoxZ t wr (Y.alloc (.cells cs.toArray t)) Y.heap.size cs:=⟨h.size,zag rfl⟩
theorem BoxZ.drew {t:TypeId} {wr w:World} {b:Nat} {cs:List Value} (h:BoxZ t wr w b cs):BoxZ t wr w.drew b cs:=⟨h.ge,h.at_⟩
theorem BoxZ.lt {t:TypeId} {wr w:World} {b:Nat} {cs:List Value} (h:BoxZ t wr w b cs):b < w.heap.size:=(Array.getElem?_eq_some_iff.1 h.at_).1
theorem BoxZ.below {t:TypeId} {wr X w:World} {b:Nat} {cs:List Value} (h:BoxZ t wr X b cs) (hb:Below X.heap.size X w):BoxZ t wr w b cs:=⟨h.ge,(hb.block _ h.lt).trans h.at_⟩
theorem BoxZ.put {t:TypeId} {wr w:World} {b:Nat} {cs:List Value} (h:BoxZ t wr w b cs) (j:Nat) (u:Value):BoxZ t wr (w.setCell ⟨b,j,none⟩ u) b (cs.set j u):=⟨h.ge,zci h.at_ j u⟩
theorem BoxZ.cell {t:TypeId} {wr w:World} {b:Nat} {cs:List Value} (h:BoxZ t wr w b cs) (j:Nat):w.cell? ⟨b,j,none⟩=cs[j]?∧w.frozen? ⟨b,j,none⟩=false:=zbe h.at_ j
end Go.Proofs.YtahiphgmhndgaaaGreatDoor
