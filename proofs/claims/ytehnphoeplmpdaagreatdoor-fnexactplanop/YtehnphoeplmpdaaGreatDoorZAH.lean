/- Several texts laid together: PiH, PiI, PiJ. -/
import Derived.Test.YtehnphoeplmpdaaGreatDoorZAF
import Derived.Test.YtehnphoeplmpdaaGreatDoorZAG
set_option maxRecDepth 100000
set_option maxHeartbeats 4000000
namespace Go.Proofs.YtehnphoeplmpdaaGreatDoor
open Go.RowKit
structure InI (W w:World) (vL:Value) (zs:List Int):Prop where
 l:w.ownsRow W.heap.size 3 1 vL zs.length (zeg zs)
 b:Below W.heap.size W w
theorem InI.z {W w:World} {vL:Value} {zs:List Int} (h:InI W w vL zs):W.heap.size≤w.heap.size:=h.b.size
theorem InI.below {W w w':World} {vL:Value} {zs:List Int} (h:InI W w vL zs) (hb:Below w.heap.size w w'):InI W w' vL zs :=
 ⟨((zad h.l).below hb (Nat.le_refl _)).1,zab h.b hb h.z⟩
theorem InI.grow {W w w':World} {vL v':Value} {zs:List Int} (h:InI W w vL zs) (x:Int) (ho:w'.ownsRow W.heap.size 3 1 v' (zs.length+1) (zeg zs ++ [.int .i64 x])) (hg:w.grownBy w' vL.ownBlock):InI W w' v' (zs ++ [x]) :=
 ⟨by rw[yaiz,List.length_append];exact ho,h.b.grown hg h.z (fun q hq=>(h.l.lt q hq).1)⟩
theorem zyl (x:Int):∀ u∈[Value.int .i64 x],u.oneCell'=true:=by
 intro u hu;rw[List.mem_singleton.1 hu];rfl
def zyr (zs:List Int):List Int:=zs.filter fun z=>z != 0
def zam (ws:List Ino):List Int:=ws.flatMap fun x=>zyr x.map
def zud (ws:List Ino) (k:Nat) (j:Nat):List Int:=zam (ws.take k) ++ zyr (((ws[k]?).map Ino.map).getD [] |>.take j)
theorem zvu (ws:List Ino) (k:Nat):zud ws k 0=zam (ws.take k):=by simp[zud,zyr]
theorem zuf {ws:List Ino} {k:Nat} (hk:k < ws.length) {j:Nat} (hj:j < 8):zud ws k (j+1)=if ws[k].map.getD j 0=0 then zud ws k j else zud ws k j ++ [ws[k].map.getD j 0]:=by
 have hl:j < ws[k].map.length:=hj
 have e:ws[k].map.getD j 0=ws[k].map[j]:=by rw[List.getD_eq_getElem?_getD,List.getElem?_eq_getElem hl];rfl
 unfold zud zyr;rw[List.getElem?_eq_getElem hk];simp only[Option.map_some,Option.getD_some];rw[List.take_succ_eq_append_getElem hl,List.filter_append,e]
 by_cases h:ws[k].map[j]=0
 ·rw[if_pos h,h];simp
 ·rw[if_neg h];simp[h]
theorem zwi {ws:List Ino} {k:Nat} (hk:k < ws.length):zud ws k 8=zam (ws.take (k+1)):=by
 unfold zud zam;rw[List.getElem?_eq_getElem hk,List.take_succ_eq_append_getElem hk,List.flatMap_append];simp[Ino.map]
theorem zxb (zs:List Int):(zyr zs).length≤zs.length:=List.length_filter_le _ _
theorem zep (ws:List Ino):(zam ws).length≤8*ws.length:=by
 induction ws with
 | nil=>simp[zam]
 | cons x ws ih =>
  have h1:=zxb x.map;have h2:x.map.length=8:=rfl;unfold zam at *;rw[List.flatMap_cons,List.length_append,List.length_cons];omega
theorem yabo (ws:List Ino) (k j:Nat) (hk:k < ws.length) (hj:j≤8):(zud ws k j).length≤8*ws.length:=by
 have h1:=zep (ws.take k);have h2:=zxb (((ws[k]?).map Ino.map).getD [] |>.take j)
 have h3:(((ws[k]?).map Ino.map).getD [] |>.take j).length≤j:=by rw[List.length_take];omega
 unfold zud;rw[List.length_append];rw[List.length_take] at h1;omega
theorem idx8 (x:Ino) (j:Nat) (hj:j < 8) (w:World):(Instr.index 131 (.agg #[.int .i64 x.m0,.int .i64 x.m1,.int .i64 x.m2,.int .i64 x.m3,.int .i64 x.m4,.int .i64 x.m5,.int .i64 x.m6,.int .i64 x.m7]) (.int .i64 (j:Int))).run Tryz.prog w=.ok (.int .i64 (x.map.getD j 0)) w:=by
 rcases (show j=0∨j=1∨j=2∨j=3∨j=4∨j=5∨j=6∨j=7 by omega) with rfl | rfl | rfl | rfl | rfl | rfl | rfl | rfl <;> simp[Instr.index,run_underlying Tryz.underlying131,asIntOf,Ino.map,go_sem]
theorem zge (v:Value) (ws:List Ino) (w:World) (h:RdN w v ws) (hn:ws.length≤4096) :
  Calls Tryz.prog 96 #[v] w fun e w'=>∃ v',e=.returned v'∧Row w' 3 1 w.heap.size w'.heap.size v' (zam ws).length (zeg (zam ws))∧Below w.heap.size w w':=by
 obtain ⟨aW,cW,rfl,_,hcW⟩:=h.shape;have HW:=zaa hcW;clear h hcW;go_enter Tryz.func96,Tryz.ntmps96;go_wp2
 go_loopw [3,5,7,10] (fun vL _ _ i wr=>∃ k:Nat,k≤ws.length∧i=.int .i64 k∧Hid (InI w wr vL (zam (ws.take k)))∧w.heap.size≤wr.heap.size) (fun _ _ _ i _=>ws.length - (intOf i).toNat)
 case atStart=>exact ⟨0,by omega,rfl,⟨World.ownsRow_nil _ _ _ _,Below.refl _ _⟩,Nat.le_refl _⟩
 case round =>
  obtain ⟨k,hk,rfl,I,hz⟩:=hrel
  by_cases hlt:k < ws.length
  ·obtain ⟨b,o,rfl,hbl,hcell⟩:=HW.o (by omega);obtain ⟨a0,a1,a2,a3,a4,a5,a6,a7,a8,a9,a10⟩:=hcell k hlt;have d0:=(I.o.b.cell (p:=⟨b,o+k*11,none⟩) hbl).trans a0;have d1:=(I.o.b.cell (p:=⟨b,o+k*11+1,none⟩) hbl).trans a1;have d2:=(I.o.b.cell (p:=⟨b,o+k*11+2,none⟩) hbl).trans a2;have d3:=(I.o.b.cell (p:=⟨b,o+k*11+3,none⟩) hbl).trans a3;have d4:=(I.o.b.cell (p:=⟨b,o+k*11+4,none⟩) hbl).trans a4;have d5:=(I.o.b.cell (p:=⟨b,o+k*11+5,none⟩) hbl).trans a5;have d6:=(I.o.b.cell (p:=⟨b,o+k*11+6,none⟩) hbl).trans a6;have d7:=(I.o.b.cell (p:=⟨b,o+k*11+7,none⟩) hbl).trans a7;have d8:=(I.o.b.cell (p:=⟨b,o+k*11+8,none⟩) hbl).trans a8;have d9:=(I.o.b.cell (p:=⟨b,o+k*11+9,none⟩) hbl).trans a9;have d10:=(I.o.b.cell (p:=⟨b,o+k*11+10,none⟩) hbl).trans a10
   have k0:(0:Int)≤(k:Int):=by omega
   have k1:(k:Int) < (ws.length:Int):=by omega
   have MZ:=zaa (zvu ws k);have MF:=zaa (zwi hlt);have MS:=zaa (fun j (hj:j < 8)=>zuf hlt hj);have ML:=zaa (fun j (hj:j≤8)=>yabo ws k j hlt hj);have HM:=zaa (fun j (hj:j < 8)=>ws[k].at j hj);clear a0 a1 a2 a3 a4 a5 a6 a7 a8 a9 a10 hcell;generalize ws[k]=x at *
   have START:Hid (InI w (wr.alloc (.cells x.cs.toArray 133)) u3 (zud ws k 0)):=by
    have:=I.o.below ((Below.refl wr.heap.size wr).alloc (Nat.le_refl _) (.cells x.cs.toArray 133));unfold Hid;rw[MZ.o];exact this
   unfold Ino.cs at START;have hz0:=START.o.z;clear I;go_wp2
   go_loopw [3,7,16] (fun vL _ i wq=>∃ j:Nat,j≤8∧i=.int .i64 j∧Hid (InI w wq vL (zud ws k j))∧w.heap.size≤wq.heap.size) (fun _ _ i _=>8 - (intOf i).toNat)
   case atStart=>exact ⟨0,by omega,rfl,START,hz0⟩
   case round =>
    obtain ⟨j,hj,rfl,J,hzj⟩:=hrel;clear START hz0 d0 d1 d2 d3 d4 d5 d6 d7 d8 d9 d10
    have j0:(0:Int)≤(j:Int):=by omega
    by_cases hlj:j < 8
    ·have j1:(j:Int) < 8:=by omega
     have ix:=idx8 x j hlj;have MJ:=zaa (MS.o j hlj);have hlen:=ML.o j (by omega);generalize x.map.getD j 0=z at ix MJ
     by_cases q:z=0
     ·have q':(z != 0)=false:=by rw[q];rfl
      have G:Hid (InI w wr u3 (zud ws k (j+1))):=by unfold Hid;rw[MJ.o,if_pos q];exact J.o
      clear q J MJ;go_wp2
      go_roundw
      case rel=>exact ⟨j+1,by omega,by go_num,G,hzj⟩
      case measure=>simp[intOf];omega
     ·have q':(z != 0)=true:=by rw[bne_iff_ne];exact q
      have JB:Hid (InI w (wr.alloc (.cells #[.int .i64 z] 3)) u3 (zud ws k j)):=J.o.below ((Below.refl _ _).alloc (Nat.le_refl _) _);have RB:=zaa (yaih wr z);have hzb:=JB.o.z
      have MN:Hid (zud ws k (j+1)=zud ws k j ++ [z]):=by unfold Hid;rw[MJ.o,if_neg q]
      clear q J MJ;go_wp2_with (at_builtin;refine zag _ rfl (.tmp 21) (.tmp 23) 22 rfl w.heap.size 3 (.int .i64 0) 1 8 Tryz.underlying22 zwz rfl (by decide) _ _ _ rfl JB.o.l _ 1 _ rfl RB.o (zyl _) (by simp[maxLen];omega) (by omega) (by omega) ?_);intro vN wN hownN hgrN;have G:=zaa (JB.o.grow z hownN hgrN);rw[← MN.o] at G;have hzN:=G.o.z;clear hownN hgrN JB RB;go_wp2
      go_roundw
      case rel=>exact ⟨j+1,by omega,by go_num,G,hzN⟩
      case measure=>simp[intOf];omega
    ·obtain rfl:j=8:=by omega
     have G:Hid (InI w wr u3 (zam (ws.take (k+1)))):=by unfold Hid;rw[← MF.o];exact J.o
     clear J;go_wp2
     go_roundw
     case rel=>exact ⟨k+1,by omega,by go_num,G,hzj⟩
     case measure=>simp[intOf];omega
  ·obtain rfl:k=ws.length:=by omega
   have E:=zaa (show zam (ws.take ws.length)=zam ws by rw[List.take_length]);rw[E.o] at I;obtain ⟨-,aL,cL,hvL,-⟩:=(zad I.o.l).rd;subst hvL;go_wp2;go_ret;exact ⟨_,rfl,zad I.o.l,I.o.b⟩
theorem yabq (w1:World) (x:Den):Rd (w1.alloc (.cells #[.int .i64 x.dir,.string x.name,.int .i64 x.child] 185)) 3 (.slice (some ⟨w1.heap.size,0,none⟩) 1 1) 1 (zhd [x]):=by
 refine ⟨rfl,_,_,rfl,⟨Nat.le_refl _,fun e=>by cases e⟩,fun _=>⟨w1.heap.size,0,rfl,by simp,fun j hj=>?_⟩⟩;obtain ⟨e0,e1,e2⟩:=zaz (zah (w:=w1) (o:=.cells #[.int .i64 x.dir,.string x.name,.int .i64 x.child] 185) rfl)
 rcases (show j=0∨j=1∨j=2 by omega) with rfl | rfl | rfl
 ·exact e0
 ·exact e1
 ·exact e2
theorem zhh (l:List Den):∀ u∈zhd l,u.oneCell'=true:=by
 intro u hu;simp only[zhd,List.mem_flatMap] at hu;obtain ⟨m,_,hm⟩:=hu;simp[Den.cells] at hm
 rcases hm with rfl | rfl | rfl <;> rfl
theorem zkj (l l':List Den):zhd (l ++ l')=zhd l ++ zhd l':=by simp[zhd]
structure DnI (W w:World) (vL:Value) (ds:List Den):Prop where
 l:w.ownsRow W.heap.size 185 3 vL ds.length (zhd ds)
 b:Below W.heap.size W w
theorem DnI.z {W w:World} {vL:Value} {ds:List Den} (h:DnI W w vL ds):W.heap.size≤w.heap.size:=h.b.size
theorem DnI.below {W w w':World} {vL:Value} {ds:List Den} (h:DnI W w vL ds) (hb:Below w.heap.size w w'):DnI W w' vL ds :=
 ⟨((zad h.l).below hb (Nat.le_refl _)).1,zab h.b hb h.z⟩
theorem DnI.grow {W w w':World} {vL v':Value} {ds:List Den} (h:DnI W w vL ds) (ms:List Den) (ho:w'.ownsRow W.heap.size 185 3 v' (ds.length+ms.length) (zhd ds ++ zhd ms)) (hg:w.grownBy w' vL.ownBlock):DnI W w' v' (ds ++ ms) :=
 ⟨by rw[zkj,List.length_append];exact ho,h.b.grown hg h.z (fun q hq=>(h.l.lt q hq).1)⟩
def zap (ps:List Den):List Den:=ps.filter fun x=>!x.freeB
theorem yacz {ps:List Den} {k:Nat} (h:k < ps.length):zap (ps.take (k+1))=if ps[k].freeB=true then zap (ps.take k) else zap (ps.take k) ++ [ps[k]]:=by
 unfold zap;rw[List.take_succ_eq_append_getElem h,List.filter_append]
 cases hf:ps[k].freeB <;> simp[hf]
theorem zoo (ps:List Den):(zap ps).length≤ps.length:=List.length_filter_le _ _
theorem zhb (v:Value) (ps:List Den) (w:World) (h:RdD w v ps) (hn:ps.length≤4096) (hF:FD w) :
  Calls Tryz.prog 90 #[v] w fun e w'=>∃ v',e=.returned v'∧Row w' 185 3 w.heap.size w'.heap.size v' (zap ps).length (zhd (zap ps))∧Below w.heap.size w w':=by
 obtain ⟨aP,cP,rfl,_,hcP⟩:=h.shape;have HP:=zaa hcP;have F:=zaa hF;clear h hcP hF;go_enter Tryz.func90,Tryz.ntmps90;go_wp2
 go_loopw [3,5,8] (fun vL _ i wr=>∃ k:Nat,k≤ps.length∧i=.int .i64 k∧Hid (DnI w wr vL (zap (ps.take k)))∧w.heap.size≤wr.heap.size) (fun _ _ i _=>ps.length - (intOf i).toNat)
 case atStart=>exact ⟨0,by omega,rfl,⟨World.ownsRow_nil _ _ _ _,Below.refl _ _⟩,Nat.le_refl _⟩
 case round =>
  obtain ⟨k,hk,rfl,I,hz⟩:=hrel
  by_cases hlt:k < ps.length
  ·obtain ⟨b,o,rfl,hbl,hcell⟩:=HP.o (by omega);obtain ⟨a0,a1,a2⟩:=hcell k hlt;have d0:=(I.o.b.cell (p:=⟨b,o+k*3,none⟩) hbl).trans a0;have d1:=(I.o.b.cell (p:=⟨b,o+k*3+1,none⟩) hbl).trans a1;have d2:=(I.o.b.cell (p:=⟨b,o+k*3+2,none⟩) hbl).trans a2
   have k0:(0:Int)≤(k:Int):=by omega
   have k1:(k:Int) < (ps.length:Int):=by omega
   have TS:=zaa (yacz hlt);have TL:=zoo (ps.take k);rw[List.length_take] at TL;have DF:=zjy ps[k];clear a0 a1 a2 hcell;generalize ps[k]=x at *;have IB:Hid (DnI w (wr.alloc (.cells #[.int .i64 x.dir,.string x.name,.int .i64 x.child] 185)) u3 (zap (ps.take k))):=I.o.below ((Below.refl _ _).alloc (Nat.le_refl _) _);obtain ⟨f0,f1,f2⟩:=FD.cells (F.o.below IB.o.b);have hzb:=IB.o.z
   cases hf:x.freeB with
   | true =>
    have G:Hid (DnI w (wr.alloc (.cells #[.int .i64 x.dir,.string x.name,.int .i64 x.child] 185)) u3 (zap (ps.take (k+1)))):=by unfold Hid;rw[TS.o,if_pos hf];exact IB.o
    rw[hf] at DF;clear IB I TS hf TL;go_wp2
    go_roundw
    case rel=>exact ⟨k+1,by omega,by go_num,G,hzb⟩
    case measure=>simp[intOf];omega
   | false =>
    have IC:Hid (DnI w ((wr.alloc (.cells #[.int .i64 x.dir,.string x.name,.int .i64 x.child] 185)).alloc (.cells #[.int .i64 x.dir,.string x.name,.int .i64 x.child] 185)) u3 (zap (ps.take k))):=IB.o.below ((Below.refl _ _).alloc (Nat.le_refl _) _);have RC:=zaa (yabq (wr.alloc (.cells #[.int .i64 x.dir,.string x.name,.int .i64 x.child] 185)) x);have hzc:=IC.o.z
    have TN:Hid (zap (ps.take (k+1))=zap (ps.take k) ++ [x]):=by unfold Hid;rw[TS.o,if_neg (by rw[hf];decide)]
    rw[hf] at DF;rw[World.size_alloc] at RC;clear IB I TS hf;go_wp2_with (at_builtin;refine zag _ rfl (.tmp 15) (.tmp 17) 77 rfl w.heap.size 185 (.agg #[.int .i64 0,.string ⟨#[]⟩,.int .i64 0]) 3 32 Tryz.underlying77 zok rfl (by decide) _ _ _ rfl IC.o.l _ 1 _ rfl RC.o (zhh _) (by simp[maxLen];omega) (by omega) (by omega) ?_);intro vN wN hownN hgrN;have G:=zaa (IC.o.grow [x] hownN hgrN);rw[← TN.o] at G;have hzN:=G.o.z;clear hownN hgrN IC RC;go_wp2
    go_roundw
    case rel=>exact ⟨k+1,by omega,by go_num,G,hzN⟩
    case measure=>simp[intOf];omega
  ·obtain rfl:k=ps.length:=by omega
   have E:=zaa (show zap (ps.take ps.length)=zap ps by rw[List.take_length]);rw[E.o] at I;obtain ⟨-,aL,cL,hvL,-⟩:=(zad I.o.l).rd;subst hvL;go_wp2;go_ret;exact ⟨_,rfl,zad I.o.l,I.o.b⟩
def ziq (x:Den):Den:=⟨x.dir,x.name,-1⟩
def hasD (ps:List Den) (x:Den):Bool:=ps.any fun y=>zhe x.dir x.name x.child y.dir y.name y.child
def znr (ps:List Den):Bool:=decide (∀ k (h:k < ps.length),hasD (ps.take k) ps[k]=false)
theorem yaox {ps:List Den} {x:Den} {k:Nat} (hk:k < ps.length) (h:zhe x.dir x.name x.child ps[k].dir ps[k].name ps[k].child=true):hasD ps x=true:=by
 unfold hasD;rw[List.any_eq_true];exact ⟨ps[k],List.getElem_mem _,h⟩
theorem yamw {ps:List Den} {x:Den} (h:∀ j (h:j < ps.length),zhe x.dir x.name x.child ps[j].dir ps[j].name ps[j].child=false):hasD ps x=false:=by
 unfold hasD;rw[List.any_eq_false];intro y hy;obtain ⟨j,hj,rfl⟩:=List.getElem_of_mem hy;rw[h j hj];decide
theorem yalj {ps:List Den} (h:∀ k (h:k < ps.length),hasD (ps.take k) ps[k]=false):znr ps=true:=decide_eq_true h
theorem yafj {ps:List Den} {k:Nat} (hk:k < ps.length) (h:hasD (ps.take k) ps[k]=true):znr ps=false:=decide_eq_false (fun x=>by have:=x k hk;rw[h] at this;cases this)
theorem RdD.take {w:World} {ao:Option Addr} {c:Nat} {ps:List Den} {m:Nat} (h:RdD w (.slice ao ps.length c) ps) (hm:m≤ps.length):RdD w (.slice ao m c) (ps.take m):=by
 have:=Rd.take h hm;unfold RdD
 have e:(ps.take m).length=m:=by rw[List.length_take];omega
 have e2:zhd (ps.take m)=(zhd ps).take (m*3):=by
  have hl:=yaau (ps.take m)
  have e3:zhd ps=zhd (ps.take m) ++ zhd (ps.drop m):=by
   unfold zhd;rw[← List.flatMap_append,List.take_append_drop]
  rw[e3];exact (List.take_left' (by rw[hl,e])).symm
 rw[e,e2];exact this
theorem below_drewN {B:Nat} {a w:World} (h:Below B a w) (n:Nat):Below B a (w.drewN n):=by
 induction n with
 | zero=>exact h
 | succ n ih=>exact ⟨ih.os,ih.tape,ih.output,ih.size,ih.block⟩
theorem zws (v:Value) (ps:List Den) (x:Den) (w:World) (h:RdD w v ps) (hn:ps.length≤1048576) :
  Calls Tryz.prog 278 #[v,x.v] w fun e w'=>∃ r:Int,e=.returned (.int .i64 r)∧(decide (0≤r)=hasD ps x)∧Below w.heap.size w w':=by
 obtain ⟨aZ,cZ,rfl,_,hcZ⟩:=h.shape;have HZ:=zaa hcZ;have BW:=zaa ((Below.refl w.heap.size w).alloc (Nat.le_refl _) (.cells #[.int .i64 x.dir,.string x.name,.int .i64 x.child] 185))
 have CB:Hid (∀ w',Below (w.alloc (.cells #[.int .i64 x.dir,.string x.name,.int .i64 x.child] 185)).heap.size (w.alloc (.cells #[.int .i64 x.dir,.string x.name,.int .i64 x.child] 185)) w'→w'.cell? ⟨w.heap.size,0,none⟩=some (.int .i64 x.dir)∧w'.cell? ⟨w.heap.size,1,none⟩=some (.string x.name)∧w'.cell? ⟨w.heap.size,2,none⟩=some (.int .i64 x.child)):=fun w' hb=>zaz ((hb.block _ (by simp)).trans (zah rfl))
 have hz:w.heap.size≤(w.alloc (.cells #[.int .i64 x.dir,.string x.name,.int .i64 x.child] 185)).heap.size:=BW.o.size
 obtain ⟨W,hW⟩:∃ W,W=w.alloc (.cells #[.int .i64 x.dir,.string x.name,.int .i64 x.child] 185):=⟨_,rfl⟩
 rw[← hW] at BW CB hz;rw[show x.v=.agg #[.int .i64 x.dir,.string x.name,.int .i64 x.child] from rfl];clear h hcZ;go_enter Tryz.func278,Tryz.ntmps278;go_wp2;rw[← hW];clear hW
 go_loopw [5,8] (fun _ i wr=>∃ k:Nat,k≤ps.length∧i=.int .i64 k∧Hid (Below W.heap.size W wr∧∀ j (h:j < ps.length),j < k→zhe x.dir x.name x.child ps[j].dir ps[j].name ps[j].child=false)) (fun _ i _=>ps.length - (intOf i).toNat)
 case atStart=>exact ⟨0,by omega,rfl,Below.refl _ _,fun j h a=>absurd a (by omega)⟩
 case round =>
  obtain ⟨k,hk,rfl,H⟩:=hrel
  by_cases hlt:k < ps.length
  ·obtain ⟨b,o,rfl,hbl,hcell⟩:=HZ.o (by omega);obtain ⟨x0,x1,x2⟩:=CB.o wr H.o.1;have B0:=zaa (zab BW.o H.o.1 hz);obtain ⟨a0,a1,a2⟩:=hcell k hlt;have d0:=(B0.o.cell (p:=⟨b,o+k*3,none⟩) hbl).trans a0;have d1:=(B0.o.cell (p:=⟨b,o+k*3+1,none⟩) hbl).trans a1;have d2:=(B0.o.cell (p:=⟨b,o+k*3+2,none⟩) hbl).trans a2
   have k0:(0:Int)≤(k:Int):=by omega
   have k1:(k:Int) < (ps.length:Int):=by omega
   clear hcell a0 a1 a2
   cases q:zhe x.dir x.name x.child ps[k].dir ps[k].name ps[k].child with
   | true =>
    have E:=zaa (yaox hlt q);clear H;generalize ps[k]=y at *;go_wp2
    go_quiet (fail)
    go_wp2;go_ret;exact ⟨_,rfl,by rw[E.o];exact decide_eq_true (by omega),below_drewN B0.o _⟩
   | false =>
    have H':Hid (∀ j (h:j < ps.length),j < k+1→zhe x.dir x.name x.child ps[j].dir ps[j].name ps[j].child=false):=fun j h a=>by
     by_cases e:j=k
     ·subst e;exact q
     ·exact H.o.2 j h (by omega)
    have H1:=zaa H.o.1;clear H;generalize ps[k]=y at d0 d1 d2 q;go_wp2
    go_quiet (fail)
    go_wp2
    go_roundw
    case rel=>exact ⟨k+1,by omega,by go_num,below_drewN H1.o _,H'.o⟩
    case measure=>simp[intOf];omega
  ·have E:=zaa (yamw (fun j h=>H.o.2 j h (by omega)));have B0:=zaa (zab BW.o H.o.1 hz);clear H;go_wp2;go_ret;exact ⟨_,rfl,by rw[E.o];rfl,B0.o⟩
theorem zhy (v:Value) (ps:List Den) (x:Den) (w:World) (h:RdD w v ps) (hn:ps.length≤1048576) :
  Calls Tryz.prog 235 #[v,x.v] w fun e w'=>e=.returned (.bool (hasD ps x))∧Below w.heap.size w w':=by
 have HZ:=zaa h;obtain ⟨aZ,cZ,rfl,_,_⟩:=h.shape;have BW:=zaa ((Below.refl w.heap.size w).alloc (Nat.le_refl _) (.cells #[.int .i64 x.dir,.string x.name,.int .i64 x.child] 185));have LI:=zaa (fun w1 h=>zws (.slice aZ ps.length cZ) ps x w1 h hn);obtain ⟨x0,x1,x2⟩:=zaz (zah (w:=w) (o:=.cells #[.int .i64 x.dir,.string x.name,.int .i64 x.child] 185) rfl);rw[show x.v=.agg #[.int .i64 x.dir,.string x.name,.int .i64 x.child] from rfl];clear h;go_enter Tryz.func235,Tryz.ntmps235;go_wp2_with fail;refine (LI.o _ (Rd.below HZ.o BW.o)).mono ?_;rintro e w1 ⟨r,rfl,hr,hb⟩;have R:=zaa hr;have B1:=zaa (zab BW.o hb BW.o.size);clear hr hb x0 x1 x2;go_wp2;go_ret;exact ⟨zaf R.o,B1.o⟩
theorem zmt (v:Value) (ps:List Den) (w:World) (h:RdD w v ps) (hn:ps.length≤1048576) :
  Calls Tryz.prog 167 #[v] w fun e w'=>e=.returned (.bool (znr ps))∧Below w.heap.size w w':=by
 have HR:=zaa h;obtain ⟨aZ,cZ,rfl,hcap,hcZ⟩:=h.shape;have HZ:=zaa hcZ;clear h hcZ;go_enter Tryz.func167,Tryz.ntmps167;go_wp2
 go_loopw [3,4,7] (fun _ _ i wr=>∃ k:Nat,k≤ps.length∧i=.int .i64 k∧Hid (Below w.heap.size w wr∧∀ j (h:j < ps.length),j < k→hasD (ps.take j) ps[j]=false)) (fun _ _ i _=>ps.length - (intOf i).toNat)
 case atStart=>exact ⟨0,by omega,rfl,Below.refl _ _,fun j h a=>absurd a (by omega)⟩
 case round =>
  obtain ⟨k,hk,rfl,H⟩:=hrel
  by_cases hlt:k < ps.length
  ·obtain ⟨b,o,rfl,hbl,hcell⟩:=HZ.o (by omega);obtain ⟨a0,a1,a2⟩:=hcell k hlt;have d0:=(H.o.1.cell (p:=⟨b,o+k*3,none⟩) hbl).trans a0;have d1:=(H.o.1.cell (p:=⟨b,o+k*3+1,none⟩) hbl).trans a1;have d2:=(H.o.1.cell (p:=⟨b,o+k*3+2,none⟩) hbl).trans a2
   have k0:(0:Int)≤(k:Int):=by omega
   have k1:(k:Int) < (ps.length:Int):=by omega
   have k2:(k:Int)≤(cZ:Int):=by omega
   have RT:=zaa (RdD.take HR.o hk);have LT:=zaa (show (ps.take k).length≤1048576 by rw[List.length_take];omega);have hz:w.heap.size≤wr.heap.size:=H.o.1.size;have H1:=zaa H.o.1;clear hcell a0 a1 a2
   obtain ⟨wb,hwb⟩:∃ wb:World,wb=wr.alloc (.cells #[.int .i64 ps[k].dir,.string ps[k].name,.int .i64 ps[k].child] 185):=⟨_,rfl⟩
   have B2:Hid (Below w.heap.size w wb):=by rw[hwb];exact H1.o.alloc hz _
   have SK:Hid (∀ w',Below wb.heap.size wb w'→w'.cell? ⟨wr.heap.size,0,none⟩=some (.int .i64 ps[k].dir)∧w'.cell? ⟨wr.heap.size,1,none⟩=some (.string ps[k].name)∧w'.cell? ⟨wr.heap.size,2,none⟩=some (.int .i64 ps[k].child)):=fun w' hb=>zaz ((hb.block _ (by rw[hwb];simp)).trans (by rw[hwb];exact zah rfl))
   cases q:hasD (ps.take k) ps[k] with
   | false =>
    have H':Hid (∀ j (h:j < ps.length),j < k+1→hasD (ps.take j) ps[j]=false):=fun j h a=>by
     by_cases e:j=k
     ·subst e;exact q
     ·exact H.o.2 j h (by omega)
    have Q:=zaa q;clear q H;generalize ps[k]=x at d0 d1 d2 Q hwb SK;go_wp2_with fail;rw[← hwb];clear hwb
    go_region_held3 (fun w'=>w'.cell? ⟨wr.heap.size,0,none⟩=some (.int .i64 x.dir)∧w'.cell? ⟨wr.heap.size,1,none⟩=some (.string x.name)∧w'.cell? ⟨wr.heap.size,2,none⟩=some (.int .i64 x.child))
     (exact SK.o _ (by repeat (first | exact BF.o | exact Below.refl _ _ | refine Below.drew ?_)))
     (first
      | (go_at_call 235;refine (zhy _ (ps.take k) x _ (Rd.below RT.o (zab B2.o (by repeat (first | exact Below.refl _ _ | refine Below.drew ?_)) B2.o.size)) LT.o).mono ?_;rw[Q.o];rintro e w1 ⟨rfl,hb1⟩;have BF:Hid (Below wb.heap.size wb w1):=(by first | exact hb1 | exact zab (by repeat (first | exact Below.refl _ _ | refine Below.drew ?_)) hb1 (Nat.le_refl _))))
    all_goals
     have B3:=zaa (zab B2.o BF.o B2.o.size);clear hb1 BF SK d0 d1 d2;go_wp2
     go_roundw
     case rel=>exact ⟨k+1,by omega,by go_num,(by repeat (first | exact B3.o | refine Below.drew ?_)),H'.o⟩
     case measure=>simp[intOf];omega
   | true =>
    have E:=zaa (yafj hlt q);have Q:=zaa q;clear q H;generalize ps[k]=x at d0 d1 d2 Q hwb SK;go_wp2_with fail;rw[← hwb];clear hwb
    go_region_held3 (fun w'=>w'.cell? ⟨wr.heap.size,0,none⟩=some (.int .i64 x.dir)∧w'.cell? ⟨wr.heap.size,1,none⟩=some (.string x.name)∧w'.cell? ⟨wr.heap.size,2,none⟩=some (.int .i64 x.child))
     (exact SK.o _ (by repeat (first | exact BF.o | exact Below.refl _ _ | refine Below.drew ?_)))
     (first
      | (go_at_call 235;refine (zhy _ (ps.take k) x _ (Rd.below RT.o (zab B2.o (by repeat (first | exact Below.refl _ _ | refine Below.drew ?_)) B2.o.size)) LT.o).mono ?_;rw[Q.o];rintro e w1 ⟨rfl,hb1⟩;have BF:Hid (Below wb.heap.size wb w1):=(by first | exact hb1 | exact zab (by repeat (first | exact Below.refl _ _ | refine Below.drew ?_)) hb1 (Nat.le_refl _))))
    all_goals
     have B3:=zaa (zab B2.o BF.o B2.o.size);clear hb1 BF SK d0 d1 d2;go_wp2;go_ret;exact ⟨zaf E.o.symm,(by repeat (first | exact B3.o | refine Below.drew ?_))⟩
  ·have E:=zaa (yalj (fun j h=>H.o.2 j h (by omega)));have H1:=zaa H.o.1;clear H;go_wp2;go_ret;exact ⟨zaf E.o.symm,H1.o⟩
end Go.Proofs.YtehnphoeplmpdaaGreatDoor
