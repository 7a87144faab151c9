/- Several texts laid together: BlkReadI, DuC, DtG. -/
import Derived.Test.YtbohndgbfbfldaaGreatDoorZBQ
import Derived.Test.YtbohndgbfbfldaaGreatDoorZBL
import Derived.Test.YtbohndgbfbfldaaGreatDoorZAK
import Derived.Test.YtbohndgbfbfldaaGreatDoorZAD
import Derived.Test.YtbohndgbfbfldaaGreatDoorRows
import Derived.Test.YtbohndgbfbfldaaGreatDoorZAJ
import Derived.Test.YtbohndgbfbfldaaGreatDoorImX
import Derived.Test.YtbohndgbfbfldaaGreatDoorZBF
import Derived.Test.YtbohndgbfbfldaaGreatDoorZAG
import Derived.Test.YtbohndgbfbfldaaGreatDoorZAE
import Derived.Test.YtbohndgbfbfldaaGreatDoorZAP
import Derived.Deep.RegionHeld3
import Derived.Deep.LoopGhost
import Derived.Laws.OwnMore
import Derived.Lib.SplitLaws
import Derived.Lib.IndexBytes
import Derived.WalkMore
import Derived.Shelf.Small.Strs
import Derived.Shelf.Small.Wraps
import Derived.Shelf.Strings.Search3
import Derived.Shelf.Strings.Count
import Derived.Shelf.Strings.Split
import Derived.Maps.OwnSet
import Derived.Maps.Views
import Derived.BigQuiet
import Derived.Sort.Walk0
import Derived.Laws.Cover1
import Derived.Test.YtbohndgbfbfldaaGreatDoorZBN
set_option maxRecDepth 100000
set_option maxHeartbeats 4000000
namespace Go.Proofs.YtbohndgbfbfldaaGreatDoor
open Go.RowKit
theorem zet (at_:Int):∀ (ps:List Se) (s:Se) (mo:Int),(ps.length:Int)≤mo→((∀ p∈ps,¬ p.at_=at_)∧(ps.foldl (zfc at_) (s,mo)).1=s)∨((ps.foldl (zfc at_) (s,mo)).1.at_=at_∧∀ d,zhf at_ d ps=(ps.foldl (zfc at_) (s,mo)).1.val)
 | [],s,mo,_=>.inl ⟨by simp,rfl⟩
 | p :: ps,s,mo,h=>by
  have h':(ps.length:Int)+1≤mo:=by simpa using h
  by_cases c:p.at_=at_
  ·have e:zfc at_ (s,mo) p=(p,mo - 1):=if_pos ⟨c,by show 0 < mo;omega⟩;rw[List.foldl_cons,e]
   rcases zet at_ ps p (mo - 1) (by omega) with ⟨h1,h2⟩ | ⟨h1,h2⟩
   ·right;rw[h2];refine ⟨c,fun d=>?_⟩
    show zhf at_ (if p.at_=at_ then p.val else d) ps=p.val
    rw[if_pos c];exact zfx h1
   ·exact .inr ⟨h1,fun d=>h2 _⟩
  ·have e:zfc at_ (s,mo) p=(s,mo):=if_neg (fun x=>c x.1);rw[List.foldl_cons,e]
   rcases zet at_ ps s mo (by omega) with ⟨h1,h2⟩ | ⟨h1,h2⟩
   ·left;refine ⟨fun q hq=>?_,h2⟩
    rcases List.mem_cons.1 hq with rfl | hq
    ·exact c
    ·exact h1 q hq
   ·exact .inr ⟨h1,fun d=>h2 _⟩
theorem zsq {at_:Int} {ps:List Se} (h:ps.length≤400):((∀ p∈ps,¬ p.at_=at_)∧zog at_ 400 ps=⟨-1,0⟩)∨((zog at_ 400 ps).at_=at_∧∀ d,zhf at_ d ps=(zog at_ 400 ps).val) :=
 zet at_ ps ⟨-1,0⟩ 400 (by omega)
theorem zig (v:Value) (ws:List Int) (ps:List Se) (at_:Int) (w:World) (h:RdBlk w v ws ps) (hG:NW w) (hw:ws.length≤1048576) (hp:ps.length≤1048576) :
  Calls Tryz.prog 197 #[v,.int .i64 at_] w fun e w'=>e=.returned (.tuple #[.int .i64 (zow ws ps at_),.int .i64 (zmb ws ps at_)])∧Below w.heap.size w w':=by
 have HR:=zaa h;obtain ⟨vW,vP,rfl,h1,h2⟩:=h;have H2:=zaa h2;obtain ⟨aW,cW,rfl,_,hcW⟩:=h1.shape;obtain ⟨aP,cP,rfl,_⟩:=h2.shape;clear h1 h2;have hb0:Below w.heap.size w (w.alloc (.cells #[.slice aW ws.length cW,.slice aP ps.length cP] 28)):=(Below.refl _ _).alloc (Nat.le_refl _) _
 rcases zrl ws ps at_ with hc | ⟨hc,hok,k,rfl,hk,hkl⟩
 ·have hne:(zmb ws ps at_ != 0)=true:=by rcases hc with hc | hc <;> simp[hc]
  have E:=zaa (zti (ws:=ws) (ps:=ps) (at_:=at_) (by rcases hc with hc | hc <;> simp[hc]));clear hc hcW;go_enter Tryz.func197,Tryz.ntmps197;go_wp2_with (go_at_call 214;refine (zdz _ ws ps _ _ (HR.o.below hb0) hw hp).mono ?_;rintro e w1 ⟨rfl,hb1⟩);go_ret2;exact ⟨zbn E.o.symm rfl,zab hb0 hb1 (by simp)⟩
 ·have E:=zaa (zzh hc hkl);have C:=zaa hc;obtain ⟨bW,oW,rfl,hbW,hcellW⟩:=hcW (by omega);have hcw:=zaa (hcellW k hkl);have LF:=zaa (zsq (at_:=(k:Int)) (ps:=ps) (zkq hok).2);clear hc hcW hcellW;go_enter Tryz.func197,Tryz.ntmps197;go_wp2_with fail;refine (zdz _ ws ps _ _ (HR.o.below hb0) hw hp).mono ?_;rw[C.o];rintro e w1 ⟨rfl,hb1⟩;have V1:=(hb1.block w.heap.size (by simp)).trans (zae rfl);obtain ⟨x1,x2,_,_⟩:=zac V1;have B1:=zaa (zab hb0 hb1 (by simp))
  have hz1:w.heap.size+1≤w1.heap.size:=by have:=hb1.size;simp at this;omega
  have VH:=zaa V1;have G1:=zaa (hG.below B1.o);clear V1 hb1 hb0;go_wp2_with fail;refine (zkm _ ps _ _ _ (Rd.below H2.o B1.o) G1.o hp (by omega) (by omega)).mono ?_
  rcases LF.o with ⟨hn,hl⟩ | ⟨ha,hl⟩
  ·rw[hl];rintro e w2 ⟨rfl,hb2⟩;have hz2:=hb2.size;have B2:=zaa (zab B1.o hb2 (by omega))
   have hb3:=zab B1.o hb2 (by omega) |>.alloc (by omega) (.cells #[.int .i64 (-1),.int .i64 0] 208)
   obtain ⟨g0,g1⟩:=((G1.o.below hb2).below ((Below.refl _ _).alloc (Nat.le_refl _) (.cells #[.int .i64 (-1),.int .i64 0] 208))).cells;obtain ⟨x1',x2',_,_⟩:=zac (zao (o:=.cells #[.int .i64 (-1),.int .i64 0] 208) ((hb2.block w.heap.size (by omega)).trans VH.o));have hcw1:=(hb3.cell (p:=⟨bW,oW+k,none⟩) hbW).trans hcw.o;have B3:=zaa hb3;have E2:=zaa (zfx (d:=ws[k]) hn);clear hb2 hb3 hn hl x1 x2;go_wp2;go_ret2;exact ⟨zbn (E.o.trans E2.o).symm C.o.symm,B3.o⟩
  ·rw[ha];rintro e w2 ⟨rfl,hb2⟩;have hz2:=hb2.size
   have hb3:=zab B1.o hb2 (by omega) |>.alloc (by omega) (.cells #[.int .i64 (k:Int),.int .i64 (zog (k:Int) 400 ps).val] 208)
   obtain ⟨g0,g1⟩:=((G1.o.below hb2).below ((Below.refl _ _).alloc (Nat.le_refl _) (.cells #[.int .i64 (k:Int),.int .i64 (zog (k:Int) 400 ps).val] 208))).cells;have B3:=zaa hb3;have E2:=zaa (hl ws[k])
   have kn:((k:Int) == -1)=false:=by first | (simp;done) | (simp;omega)
   clear hb2 hb3 ha hl x1 x2;generalize (zog (k:Int) 400 ps).val=y at *;go_wp2;go_ret2;exact ⟨zbn (E.o.trans E2.o).symm C.o.symm,B3.o⟩
theorem znb {ws:List Int} {ps:List St} (h:pmB ws ps=true) {k:Nat} (hk:k < 24):zpc ws ps (312+(k:Int))=ldW ws ps (312+k)∧zma ws ps (312+(k:Int))=0:=by
 have p:zaz (312+(k:Int))=true:=decide_eq_true (by omega)
 have a:zma ws ps (312+(k:Int))=0:=by unfold zma;rw[h,p];rfl
 refine ⟨?_,a⟩;unfold zpc ldW;rw[if_pos a,show (312+(k:Int)).toNat=312+k by omega,show ((312+k:Nat):Int)=312+(k:Int) by omega]
theorem zof {es:List Int} {qs:List Se} (h:zfa es qs=true) {k:Nat} (hk:k < 32):zow es qs (k:Int)=zhf (k:Int) (es[k]?.getD 0) qs∧zmb es qs (k:Int)=0:=by
 have p:zgi (k:Int)=true:=decide_eq_true (by omega)
 have a:zmb es qs (k:Int)=0:=by unfold zmb;rw[h,p];rfl
 refine ⟨?_,a⟩;unfold zow;rw[if_pos a,Int.toNat_natCast]
theorem zoy (v:Value) (ws:List Int) (ps:List St) (es:List Int) (qs:List Se) (e:Int) (w:World) (h:RdDev w v ws ps es qs) (hP:pmB ws ps=true) (hB:zfa es qs=true) (te:zfp e=true) (hT:TS w) (hN:NW w) :
  Calls Tryz.prog 159 #[v,.int .i64 e] w fun r w'=>r=.returned (.int .i64 (pgV ws ps es qs e))∧Below w.heap.size w w':=by
 obtain ⟨aW,cW,aP,cP,aS,cS,aQ,cQ,rfl,h1,h2⟩:=h.form
 have te':0≤e∧((e % 4=0∧e / 4=0)∨(e % 4=1∧0≤e / 4∧e / 4 < 24)∨(e % 4=2∧0≤e / 4∧e / 4 < 32)):=by
  unfold zfp zjq at te;rw[Bool.and_eq_true,decide_eq_true_eq,decide_eq_true_eq] at te;exact te
 have wl:=zlv hP;have el:=zkq hB;have BW:Hid (Below w.heap.size w (w.alloc (.cells #[.slice aW ws.length cW,.slice aP ps.length cP,.slice aS es.length cS,.slice aQ qs.length cQ] 30))):=(Below.refl _ _).alloc (Nat.le_refl _) _
 have LT:Hid (∀ w1,Below w.heap.size w w1→Calls Tryz.prog 195 #[.int .i64 e] w1 fun r w'=>r=.returned (.tuple #[.int .i64 (e % 4),.int .i64 (e / 4),.int .i64 0])∧w'=w1):=fun w1 hb=>by
  have q:=zdd e w1 (hT.below hb) (by omega) (by omega);rw[(znq te).1,(znq te).2.1,(znq te).2.2] at q;exact q
 have EV:=zaa (show pgV ws ps es qs e=if e % 4=1 then ldW ws ps (312+e / 4).toNat else if e % 4=2 then zhf (e / 4) (es[(e / 4).toNat]?.getD 0) qs else 0 from rfl)
 have L1:Hid (∀ (k:Nat),k < 24→∀ w1,Below w.heap.size w w1→Calls Tryz.prog 196 #[.agg #[.slice aW ws.length cW,.slice aP ps.length cP],.int .i64 (312+(k:Int))] w1 fun r w'=>r=.returned (.tuple #[.int .i64 (ldW ws ps (312+k)),.int .i64 0])∧Below w1.heap.size w1 w'):=fun k hk w1 hb=>by
  have:=zjj _ ws ps (312+(k:Int)) w1 (h1.below hb) (by omega) (by omega);rw[(znb hP hk).1,(znb hP hk).2] at this;exact this
 have L2:Hid (∀ (k:Nat),k < 32→∀ w1,Below w.heap.size w w1→Calls Tryz.prog 197 #[.agg #[.slice aS es.length cS,.slice aQ qs.length cQ],.int .i64 (k:Int)] w1 fun r w'=>r=.returned (.tuple #[.int .i64 (zhf (k:Int) (es[k]?.getD 0) qs),.int .i64 0])∧Below w1.heap.size w1 w'):=fun k hk w1 hb=>by
  have:=zig _ es qs (k:Int) w1 (h2.below hb) (hN.below hb) (by omega) (by omega);rw[(zof hB hk).1,(zof hB hk).2] at this;exact this
 clear h h1 h2 te hP hB wl el hT hN;generalize pgV ws ps es qs e=r at *;generalize e % 4=t at *;generalize e / 4=a at *
 rcases te'.2 with ⟨rfl,rfl⟩ | ⟨rfl,a0,a1⟩ | ⟨rfl,a0,a1⟩
 ·rw[if_neg (by omega),if_neg (by omega)] at EV;obtain rfl:=EV.o;clear te' L1 L2 EV;go_enter Tryz.func159,Tryz.ntmps159;go_wp2_with fail;refine (LT.o _ BW.o).mono ?_;rintro r w1 ⟨rfl,hw1⟩;subst w1;go_wp2;go_ret;exact ⟨rfl,BW.o⟩
 ·obtain ⟨k,rfl⟩:∃ k:Nat,a=(k:Int):=⟨a.toNat,by omega⟩
  rw[if_pos rfl,show (312+(k:Int)).toNat=312+k by omega] at EV;obtain rfl:=EV.o
  have k24:k < 24:=by omega
  have Q:=zaa (L1.o k k24);clear te' L1 L2 EV a0 a1;go_enter Tryz.func159,Tryz.ntmps159;go_wp2_with fail;refine (LT.o _ BW.o).mono ?_;rintro r w1 ⟨rfl,hw1⟩;subst w1;go_wp2_with fail;refine (Q.o _ BW.o).mono ?_;rintro r w2 ⟨rfl,hb2⟩;have B2:=zaa (zab BW.o hb2 BW.o.size);clear hb2;go_wp2;go_ret;exact ⟨rfl,B2.o⟩
 ·obtain ⟨k,rfl⟩:∃ k:Nat,a=(k:Int):=⟨a.toNat,by omega⟩
  rw[if_neg (by omega),if_pos rfl,Int.toNat_natCast] at EV;obtain rfl:=EV.o
  have k32:k < 32:=by omega
  have Q:=zaa (L2.o k k32);clear te' L1 L2 EV a0 a1;go_enter Tryz.func159,Tryz.ntmps159;go_wp2_with fail;refine (LT.o _ BW.o).mono ?_;rintro r w1 ⟨rfl,hw1⟩;subst w1;go_wp2_with fail;refine (Q.o _ BW.o).mono ?_;rintro r w2 ⟨rfl,hb2⟩;have B2:=zaa (zab BW.o hb2 BW.o.size);clear hb2;go_wp2;go_ret;exact ⟨rfl,B2.o⟩
theorem yadf (ws:List Int) (ps:List St) (es:List Int) (qs:List Se) (x:Ino) (k:Nat):(pgL ws ps es qs x k).length=k:=by simp[pgL]
end Go.Proofs.YtbohndgbfbfldaaGreatDoor
