/- Several texts laid together: BlkOKI, BlkRead, BlkSm, BlkOwn, BlkWrite, BlkBar. -/
import Derived.Test.YtahiphgmhndgaaaGreatDoorZAC
import Derived.Test.YtahiphgmhndgaaaGreatDoorZAE
import Derived.Deep.RegionLaw
set_option maxRecDepth 100000
set_option maxHeartbeats 4000000
namespace Go.Proofs.YtahiphgmhndgaaaGreatDoor
open Go.RowKit
def seB (s:Se):Bool:=zlg s.at_ && zao s.val
theorem yaoc {s:Se} (h:seB s=true):zlg s.at_=true∧zao s.val=true:=by unfold seB at h;simpa using h
theorem yalq {s:Se} {p:Prop} (h:seB s=false) (h1:zlg s.at_=false→p) (h2:zao s.val=false→p):p:=by
 unfold seB at h;rw[Bool.and_eq_false_iff] at h;exact h.elim h1 h2
def sesB (ps:List Se):Bool:=decide (∀ k (h:k < ps.length),seB ps[k]=true)
theorem yahu {ps:List Se} (h:sesB ps=true):∀ k (h:k < ps.length),seB ps[k]=true:=of_decide_eq_true h
theorem yahr {ps:List Se} (h:∀ k (h:k < ps.length),seB ps[k]=true):sesB ps=true:=decide_eq_true h
theorem yapy {ps:List Se} {k:Nat} (hk:k < ps.length) (h:seB ps[k]=false):sesB ps=false:=decide_eq_false (fun x=>by have:=x k hk;rw[h] at this;cases this)
theorem yata {ps:List Se} (h:sesB ps=false):∃ k,∃ h:k < ps.length,seB ps[k]=false:=by
 apply Classical.byContradiction;intro hn
 have:sesB ps=true:=yahr (fun k hk=>by
  cases e:seB ps[k] with
  | true=>rfl
  | false=>exact absurd ⟨k,hk,e⟩ hn)
 rw[h] at this
 cases this
theorem zpc (s:Se) (w:World):Calls Tryz.prog 170 #[.agg #[.int .i64 s.at_,.int .i64 s.val]] w fun e w'=>e=.returned (.bool (seB s))∧Below w.heap.size w w':=by
 have hb0:Below w.heap.size w (w.alloc (.cells #[.int .i64 s.at_,.int .i64 s.val] 150)):=(Below.refl _ _).alloc (Nat.le_refl _) _
 by_cases q:zlg s.at_=true
 ·have E:=zaa (show seB s=zao s.val by unfold seB;rw[q];rfl);have Q:=zaa q;clear q;go_enter Tryz.func170,Tryz.ntmps170;go_wp2_with (first | (go_at_call 194;refine (zer _ _).mono ?_;rw[Q.o];rintro e w' ⟨rfl,rfl⟩) | (go_at_call 166;refine (zcm _ _).mono ?_;rintro e w' ⟨rfl,rfl⟩));go_ret;exact ⟨zae E.o.symm,hb0⟩
 ·have q':zlg s.at_=false:=by simpa using q
  have E:=zaa (show seB s=false by unfold seB;rw[q'];rfl);have Q:=zaa q';clear q q';go_enter Tryz.func170,Tryz.ntmps170;go_wp2_with (go_at_call 194;refine (zer _ _).mono ?_;rw[Q.o];rintro e w' ⟨rfl,rfl⟩);go_ret;exact ⟨zae E.o.symm,hb0⟩
theorem zje (v:Value) (ps:List Se) (w:World) (h:RdE w v ps) (hn:ps.length≤1048576) :
  Calls Tryz.prog 169 #[v,.func (.func 170) #[] #[]] w fun e w'=>e=.returned (.bool (sesB ps))∧Below w.heap.size w w':=by
 obtain ⟨aP,cP,rfl,_,hcP⟩:=h.shape;clear h;go_enter Tryz.func169,Tryz.ntmps169;go_wp2
 go_loopw [6,9] (fun _ i wr=>∃ k:Nat,k≤ps.length∧i=.int .i64 k∧Hid (∀ j (h:j < ps.length),j < k→seB ps[j]=true)∧Below w.heap.size w wr) (fun _ i _=>ps.length - (intOf i).toNat)
 case atStart=>exact ⟨0,by omega,rfl,fun j h a=>absurd a (by omega),Below.refl _ _⟩
 case round =>
  obtain ⟨m,hm,rfl,H,hbw⟩:=hrel;have hz:=hbw.size
  by_cases hlt2:m < ps.length
  ·obtain ⟨b2,o2,rfl,hbl2,hcell2⟩:=hcP (by omega);obtain ⟨d0,d1⟩:=hcell2 m hlt2;have e0:=(hbw.cell (p:=⟨b2,o2+m*2,none⟩) hbl2).trans d0;have e1:=(hbw.cell (p:=⟨b2,o2+m*2+1,none⟩) hbl2).trans d1;have hb1:=zaa (hbw.alloc hz (.cells #[.int .i64 ps[m].at_,.int .i64 ps[m].val] 150));clear d0 d1 hcell2 hcP
   by_cases q:seB ps[m]=true
   ·have Q:=zaa q;clear q;go_wp2_with (go_at_call 170;refine (zpc ps[m] _).mono ?_;rw[Q.o];rintro e w' ⟨rfl,hw'⟩);have hw2:=hb1.o.trans (hw'.mono (by simp;omega));clear hb1 hw'
    go_roundw
    case rel =>
     refine ⟨m+1,by omega,by go_num,fun j h a=>?_,hw2⟩
     by_cases e:j=m
     ·subst e;exact Q.o
     ·exact H.o j h (by omega)
    case measure=>simp[intOf];omega
   ·have Q:=zaa (show seB ps[m]=false by simpa using q);have E:=zaa (yapy hlt2 Q.o);clear q;go_wp2_with (go_at_call 170;refine (zpc ps[m] _).mono ?_;rw[Q.o];rintro e w' ⟨rfl,hw'⟩);have hw2:=hb1.o.trans (hw'.mono (by simp;omega));go_ret;exact ⟨zae E.o.symm,hw2⟩
  ·have E:=zaa (yahr (fun j h=>H.o j h (by omega)));go_wp2;go_ret;exact ⟨zae E.o.symm,hbw⟩
theorem zbr (v:Value) (ws:List Int) (ps:List Se) (w:World) (h:RdBlk w v ws ps) (hw:ws.length≤1048576) (hp:ps.length≤1048576) :
  Calls Tryz.prog 138 #[v] w fun e w'=>e=.returned (.bool (zbp ws ps))∧Below w.heap.size w w':=by
 obtain ⟨vW,vP,rfl,h1,h2⟩:=h;obtain ⟨aW,cW,rfl,_,hcW⟩:=h1.shape;obtain ⟨aP,cP,rfl,_,hcP⟩:=h2.shape;have H1:=zaa h1;have H2:=zaa h2;clear h1 h2 hcW hcP;have hb0:Below w.heap.size w (w.alloc (.cells #[.slice aW ws.length cW,.slice aP ps.length cP] 43)):=(Below.refl _ _).alloc (Nat.le_refl _) _;have HB:=zaa hb0
 by_cases c1:ws.length=32
 case neg =>
  have E:=zaa (zxm (ps:=ps) c1)
  have c1':((ws.length:Int) == 32)=false:=by rw[beq_eq_false_iff_ne];omega
  clear c1;go_enter Tryz.func138,Tryz.ntmps138;go_wp2;go_ret;exact ⟨zae E.o.symm,HB.o⟩
 have c1n:((ws.length:Int) == 32)=true:=by simp;omega
 have C1:=zaa c1;clear c1
 by_cases c2:400 < ps.length
 ·have E:=zaa (zvx (ws:=ws) c2)
  have c2':decide ((ps.length:Int)≤400)=false:=by simp;omega
  go_enter Tryz.func138,Tryz.ntmps138;go_wp2;go_ret;exact ⟨zae E.o.symm,HB.o⟩
 by_cases c3:zjd ws=true
 case neg =>
  have c3':zjd ws=false:=by simpa using c3
  obtain ⟨k,hk,hkf⟩:=zym c3';have E:=zaa (yara (ps:=ps) hk hkf);have W0:=zaa c3';clear c3 c3' hkf hk;go_enter Tryz.func138,Tryz.ntmps138;go_wp2_with (go_at_call 131;refine (zdf _ ws _ (Rd.below H1.o HB.o) (by omega)).mono ?_;rw[W0.o];rintro e w' ⟨rfl,rfl⟩);go_ret;exact ⟨zae E.o.symm,HB.o⟩
 have HW:=zaa (zpm c3);have W1:=zaa c3;clear c3
 cases c4:sesB ps with
 | true =>
  have E:=zaa (zzt C1.o (by omega) HW.o (fun j h=>yaoc (yahu c4 j h)));have W2:=zaa c4;clear c4;go_enter Tryz.func138,Tryz.ntmps138;go_wp2_with (first | (go_at_call 131;refine (zdf _ ws _ (Rd.below H1.o HB.o) (by omega)).mono ?_;rw[W1.o];rintro e w' ⟨rfl,rfl⟩) | (go_at_call 169;refine (zje _ ps _ (Rd.below H2.o HB.o) (by omega)).mono ?_;rw[W2.o];rintro e w' ⟨rfl,hw'⟩));go_ret;exact ⟨zae E.o.symm,HB.o.trans (hw'.mono (by simp))⟩
 | false =>
  obtain ⟨k,hk,hkf⟩:=yata c4;have E:=zaa (show zbp ws ps=false from yalq hkf (yaqy (ws:=ws) hk) (yaqs (ws:=ws) hk));have W2:=zaa c4;clear c4 hk hkf;go_enter Tryz.func138,Tryz.ntmps138;go_wp2_with (first | (go_at_call 131;refine (zdf _ ws _ (Rd.below H1.o HB.o) (by omega)).mono ?_;rw[W1.o];rintro e w' ⟨rfl,rfl⟩) | (go_at_call 169;refine (zje _ ps _ (Rd.below H2.o HB.o) (by omega)).mono ?_;rw[W2.o];rintro e w' ⟨rfl,hw'⟩));go_ret;exact ⟨zae E.o.symm,HB.o.trans (hw'.mono (by simp))⟩
def zrc (ws:List Int) (ps:List Se) (at_:Int):Int:=if zbp ws ps=false then 1 else if zlg at_=false then 14 else 0
theorem yacw {ws:List Int} {ps:List Se} {at_:Int} (h:zbp ws ps=false):zrc ws ps at_=1:=by unfold zrc;rw[if_pos h]
theorem zsn {ws:List Int} {ps:List Se} {at_:Int} (h:zbp ws ps=true) (h2:zlg at_=false):zrc ws ps at_=14:=by unfold zrc;rw[if_neg (by rw[h];simp),if_pos h2]
theorem yacb {ws:List Int} {ps:List Se} {at_:Int} (h:zbp ws ps=true) (h2:zlg at_=true):zrc ws ps at_=0:=by unfold zrc;rw[if_neg (by rw[h];simp),if_neg (by rw[h2];simp)]
theorem zdt (v:Value) (ws:List Int) (ps:List Se) (at_:Int) (w:World) (h:RdBlk w v ws ps) (hw:ws.length≤1048576) (hp:ps.length≤1048576) :
  Calls Tryz.prog 177 #[v,.int .i64 at_] w fun e w'=>e=.returned (.int .i64 (zrc ws ps at_))∧Below w.heap.size w w':=by
 have HR:=zaa h;obtain ⟨vW,vP,rfl,h1,h2⟩:=h;obtain ⟨aW,cW,rfl,_⟩:=h1.shape;obtain ⟨aP,cP,rfl,_⟩:=h2.shape;clear h1 h2;have hb0:Below w.heap.size w (w.alloc (.cells #[.slice aW ws.length cW,.slice aP ps.length cP] 43)):=(Below.refl _ _).alloc (Nat.le_refl _) _
 by_cases c1:zbp ws ps=true
 ·by_cases c2:zlg at_=true
  ·rw[yacb c1 c2];go_enter Tryz.func177,Tryz.ntmps177;go_wp2_with (first | (go_at_call 138;refine (zbr _ ws ps _ (HR.o.below hb0) hw hp).mono ?_;rintro e w1 ⟨rfl,hb1⟩) | (go_at_call 194;refine (zer _ _).mono ?_;rintro e w2 ⟨rfl,rfl⟩));go_ret;exact ⟨rfl,zab hb0 hb1 (by simp)⟩
  ·have c2':zlg at_=false:=by simpa using c2
   rw[zsn c1 c2'];clear c2;go_enter Tryz.func177,Tryz.ntmps177;go_wp2_with (first | (go_at_call 138;refine (zbr _ ws ps _ (HR.o.below hb0) hw hp).mono ?_;rintro e w1 ⟨rfl,hb1⟩) | (go_at_call 194;refine (zer _ _).mono ?_;rintro e w2 ⟨rfl,rfl⟩));go_ret;exact ⟨rfl,zab hb0 hb1 (by simp)⟩
 ·have c1':zbp ws ps=false:=by simpa using c1
  rw[yacw c1'];clear c1;go_enter Tryz.func177,Tryz.ntmps177;go_wp2_with (first | (go_at_call 138;refine (zbr _ ws ps _ (HR.o.below hb0) hw hp).mono ?_;rintro e w1 ⟨rfl,hb1⟩) | (go_at_call 194;refine (zer _ _).mono ?_;rintro e w2 ⟨rfl,rfl⟩));go_ret;exact ⟨rfl,zab hb0 hb1 (by simp)⟩
theorem yaex (ws:List Int) (ps:List Se) (at_:Int):(zrc ws ps at_=1∨zrc ws ps at_=14)∨(zrc ws ps at_=0∧zbp ws ps=true∧∃ k:Nat,at_=(k:Int)∧k < 32∧k < ws.length):=by
 by_cases c1:zbp ws ps=true
 ·by_cases c2:zlg at_=true
  ·have:=zqe c2;have hl:=(zbt c1).1;exact .inr ⟨yacb c1 c2,c1,at_.toNat,by omega,by omega,by omega⟩
  ·exact .inl (.inr (zsn c1 (by simpa using c2)))
 ·exact .inl (.inl (yacw (by simpa using c1)))
theorem yabr (ps:List Se):∀ u∈ses ps,u.oneCell'=true:=by
 intro u hu;simp only[ses,List.mem_flatMap,Se.cells] at hu;obtain ⟨s,_,hs⟩:=hu;simp at hs
 rcases hs with rfl | rfl <;> rfl
theorem RowBlk.setCell {w:World} {lo hi:Nat} {v:Value} {ws:List Int} {ps:List Se} (h:RowBlk w lo hi v ws ps) {a:Addr} (ha:a.block < lo) (u:Value):RowBlk (w.setCell a u) lo hi v ws ps:=by
 obtain ⟨vW,vP,rfl,h1,h2⟩:=h;exact ⟨vW,vP,rfl,h1.same (fun b hb _=>Below.heap_setCell _ _ _ _ (by omega)),h2.same (fun b hb _=>Below.heap_setCell _ _ _ _ (by omega))⟩
theorem RowBlk.alloc {w:World} {lo hi:Nat} {v:Value} {ws:List Int} {ps:List Se} (h:RowBlk w lo hi v ws ps) (hi1:hi≤w.heap.size) (o:Obj):RowBlk (w.alloc o) lo hi v ws ps :=
 h.below ((Below.refl _ _).alloc (Nat.le_refl _) o) hi1
theorem RowBlk.zero (w:World) (lo hi:Nat):RowBlk w lo hi (.agg #[.slice none 0 0,.slice none 0 0]) [] []:=⟨_,_,rfl,RowZ.nil _ _ _,Row.nil _ _ _ _ _⟩
theorem yacg (ps:List Se) (s:Se):ses (ps ++ [s])=ses ps ++ s.cells:=by simp[ses]
theorem RdE.form {w:World} {v:Value} {ps:List Se} (h:RdE w v ps) {n:Nat} (hn:ps.length=n):∃ ao cap,v=.slice ao n cap:=by
 obtain ⟨ao,cap,e,_⟩:=h.shape;exact ⟨ao,cap,by rw[← hn];exact e⟩
theorem yasq {ws:List Int} {ps:List Se} (h:zbp ws ps=true):∀ j (hj:j < ps.length),0≤ps[j].at_∧ps[j].at_ < 32:=fun j hj=>zqe (zli h j hj).1
theorem yavc (w1:World) (a x:Int):Rd (w1.alloc (.cells #[.int .i64 a,.int .i64 x] 150)) 2 (.slice (some ⟨w1.heap.size,0,none⟩) 1 1) 1 (Se.cells ⟨a,x⟩):=by
 refine ⟨rfl,_,_,rfl,⟨Nat.le_refl _,fun e=>by cases e⟩,fun _=>⟨w1.heap.size,0,rfl,by simp,fun j hj=>?_⟩⟩;obtain ⟨e0,e1,_,_⟩:=zad (zag (w:=w1) (o:=.cells #[.int .i64 a,.int .i64 x] 150) rfl);rw[Nat.zero_add]
 rcases (show j=0∨j=1 from by omega) with rfl | rfl
 ·exact e0
 ·exact e1
def RowBlk3 (w:World) (lo hi:Nat) (v:Value) (ws:List Int) (ps:List Se):Prop:=∃ vW vP,v=.agg #[vW,vP]∧Row w 3 1 lo hi vW ws.length (zav ws)∧Row w 150 2 lo hi vP ps.length (ses ps)
theorem zsg (v:Value) (ws:List Int) (ps:List Se) (w:World) (h:RdBlk w v ws ps) (hw:ws.length≤2147483648) (hp:ps.length≤2147483648) :
  Calls Tryz.prog 65 #[v] w fun e w'=>∃ v',e=.returned v'∧RowBlk3 w' w.heap.size w'.heap.size v' ws ps∧Below w.heap.size w w':=by
 obtain ⟨vW,vP,rfl,h1,h2⟩:=h;have H1:=zaa h1;have H2:=zaa h2;obtain ⟨aW,cW,rfl,_⟩:=h1.shape;obtain ⟨aP,cP,rfl,_⟩:=h2.shape;clear h1 h2
 have hb0:Below w.heap.size w (((w.alloc (.cells #[.slice aW ws.length cW,.slice aP ps.length cP] 43)).alloc (.cells #[.slice none 0 0,.slice none 0 0] 43)).alloc (.cells #[] 3)):=by
  repeat (refine Below.alloc ?_ (by simp <;> omega) _)
  exact Below.refl _ _
 have ho0:(((w.alloc (.cells #[.slice aW ws.length cW,.slice aP ps.length cP] 43)).alloc (.cells #[.slice none 0 0,.slice none 0 0] 43)).alloc (.cells #[] 3)).ownsRow (w.heap.size+2) 3 1 (.slice (some ⟨w.heap.size+1+1,0,none⟩) 0 0) 0 []:=by
  simpa using World.ownsRow_lit (base:=w.heap.size+2) (e:=3) (size:=1) ((w.alloc (.cells #[.slice aW ws.length cW,.slice aP ps.length cP] 43)).alloc (.cells #[.slice none 0 0,.slice none 0 0] 43)) #[] 0 (by simp) (by simp) rfl
 have HO:=zaa ho0;have HB:=zaa hb0;clear ho0 hb0;go_enter Tryz.func65,Tryz.ntmps65;go_wp2_with (at_builtin;refine zak _ rfl (.tmp 3) (.tmp 5) 22 rfl (w.heap.size+2) 3 (.int .i64 0) 1 8 Tryz.underlying22 zfz rfl (by decide) _ 0 [] rfl HO.o _ ws.length (zav ws) rfl (Rd.below H1.o HB.o) (zdw ws) (by simp[maxLen];omega) (by omega) (by simp) ?_);intro v1 w1 hown1 hgr1
 have hown1:w1.ownsRow (w.heap.size+2) 3 1 v1 ws.length (zav ws):=by simpa using hown1
 have R1:=zaa (zai hown1);obtain ⟨_,a1,c1,rfl,_⟩:=(zai hown1).rd
 have hz1:w.heap.size+3≤w1.heap.size:=by have:=hgr1.size;simp at this;omega
 have V0:=(hgr1.block w.heap.size (by simp <;> omega) (by simp[Value.ownBlock] <;> omega)).trans (zal (zal (zag rfl)));have V1:=(hgr1.block (w.heap.size+1) (by simp <;> omega) (by simp[Value.ownBlock] <;> omega)).trans (zal (zag (by simp)));have B1:=HB.o.grown hgr1 (by simp <;> omega) (fun k hk=>by simp[Value.ownBlock] at hk;omega);have V0':=zal (o:=.cells #[] 150) (zep V0 (.slice a1 ws.length c1));have V1':=zal (o:=.cells #[] 150) ((Below.heap_setCell w1 ⟨w.heap.size,0,none⟩ (.slice a1 ws.length c1) (w.heap.size+1) (by simp)).trans V1);obtain ⟨x1,x2,x3,x4⟩:=zad V0;obtain ⟨x5,x6,x7,x8⟩:=zad V0';have HV:=zaa (And.intro V0' V1');have hB2:=(B1.setCell (p:=⟨w.heap.size,0,none⟩) (Nat.le_refl _) (.slice a1 ws.length c1)).alloc (by simp;omega) (.cells #[] 150)
 have ho2:((w1.setCell ⟨w.heap.size,0,none⟩ (.slice a1 ws.length c1)).alloc (.cells #[] 150)).ownsRow w1.heap.size 150 2 (.slice (some ⟨w1.heap.size,0,none⟩) 0 0) 0 []:=by
  simpa using World.ownsRow_lit (base:=w1.heap.size) (e:=150) (size:=2) (w1.setCell ⟨w.heap.size,0,none⟩ (.slice a1 ws.length c1)) #[] 0 (by simp) (by simp) rfl
 have HB2:=zaa hB2;have HO2:=zaa ho2;clear hown1 hgr1 V0 V1 B1 V0' V1' hB2 ho2;go_wp2_with (at_builtin;refine zak _ rfl (.tmp 8) (.tmp 10) 41 rfl w1.heap.size 150 (.agg #[.int .i64 0,.int .i64 0]) 2 16 Tryz.underlying41 zmk rfl (by decide) _ 0 [] rfl HO2.o _ ps.length (ses ps) rfl (Rd.below H2.o HB2.o) (yabr ps) (by simp[maxLen];omega) (by omega) (by simp) ?_);intro v2 w2 hown2 hgr2
 have hown2:w2.ownsRow w1.heap.size 150 2 v2 ps.length (ses ps):=by simpa using hown2
 have R2:=zaa (zai hown2);obtain ⟨_,a2,c2,rfl,_⟩:=(zai hown2).rd
 have hz2:w1.heap.size+1≤w2.heap.size:=by have:=hgr2.size;simp at this;omega
 have V0:=(hgr2.block w.heap.size (by simp <;> omega) (by simp[Value.ownBlock];omega)).trans HV.o.1;have V1:=(hgr2.block (w.heap.size+1) (by simp <;> omega) (by simp[Value.ownBlock];omega)).trans HV.o.2;have B2:=zaa (HB2.o.grown hgr2 (by simp <;> omega) (fun k hk=>by simp[Value.ownBlock] at hk;omega))
 have K2:Hid (∀ b,w.heap.size+2≤b→b < w1.heap.size→w2.heap[b]?=w1.heap[b]?):=by
  intro b h1 h2;rw[hgr2.block b (by simp <;> omega) (by simp[Value.ownBlock];omega),zea,if_neg (by simp;omega),Below.heap_setCell _ _ _ _ (by simp only;omega)]
 obtain ⟨z1,z2,z3,z4⟩:=zad V0;obtain ⟨t1,t2,t3,t4⟩:=zad V1;clear hown2 hgr2 V0 V1;go_wp2;refine bodyPost_ret (v:=.agg #[.slice a1 ws.length c1,.slice a2 ps.length c2]) (by simp[results,Tryz.results65,go_sem,t1,t2]) rfl ?_;refine ⟨_,rfl,⟨_,_,rfl,(R1.o.same fun b h1 h2=>?_).wide (by omega) (by simp;omega),(R2.o.same fun b h1 h2=>?_).wide (by omega) (by simp)⟩,?_⟩
 ·rw[Below.heap_setCell _ _ _ _ (by simp only;omega),Below.heap_setCell _ _ _ _ (by simp only;omega),Below.heap_setCell _ _ _ _ (by simp only;omega),K2.o b h1 h2]
 ·rw[Below.heap_setCell _ _ _ _ (by simp only;omega),Below.heap_setCell _ _ _ _ (by simp only;omega),Below.heap_setCell _ _ _ _ (by simp only;omega)]
 ·exact ((B2.o.setCell (by simp only;omega) _).setCell (by simp only;omega) _).setCell (by simp only;omega) _
theorem zta (v:Value) (ws:List Int) (ps:List Se) (w:World) (h:RdBlk w v ws ps) (hw:ws.length≤2147483648) (hp:ps.length≤2147483648) :
  Calls Tryz.prog 65 #[v] w fun e w'=>∃ v',e=.returned v'∧RowBlk w' w.heap.size w'.heap.size v' ws ps∧Below w.heap.size w w' :=
 (zsg v ws ps w h hw hp).mono fun _ _ ⟨v',he,⟨vW,vP,hv,h1,h2⟩,hb⟩=>⟨v',he,⟨vW,vP,hv,h1.z,h2⟩,hb⟩
def zdx (ws:List Int) (ps:List Se) (at_ v:Int):Int:=if zrc ws ps at_=0 then if zao v=false then 4 else if ps.length=400 then 7 else 0 else zrc ws ps at_
def zcz (ws:List Int) (ps:List Se) (at_ v:Int):List Int:=if zdx ws ps at_ v=0∨zdx ws ps at_ v=7 then ws else []
def zdc (ws:List Int) (ps:List Se) (at_ v:Int):List Se:=if zdx ws ps at_ v=0 then ps ++ [⟨at_,v⟩] else if zdx ws ps at_ v=7 then ps else []
theorem zjh (ws:List Int) (ps:List Se) (at_ v:Int) :
  ((zrc ws ps at_=1∨zrc ws ps at_=14)∧zdx ws ps at_ v=zrc ws ps at_∧zcz ws ps at_ v=[]∧zdc ws ps at_ v=[]) ∨
  (zrc ws ps at_=0∧zao v=false∧zdx ws ps at_ v=4∧zcz ws ps at_ v=[]∧zdc ws ps at_ v=[]) ∨
  (zrc ws ps at_=0∧zao v=true∧ps.length=400∧zdx ws ps at_ v=7∧zcz ws ps at_ v=ws∧zdc ws ps at_ v=ps) ∨
  (zrc ws ps at_=0∧zao v=true∧¬ ps.length=400∧zdx ws ps at_ v=0∧zcz ws ps at_ v=ws∧zdc ws ps at_ v=ps ++ [⟨at_,v⟩]):=by
 rcases yaex ws ps at_ with hc | ⟨hc,_⟩
 ·left
  have e:zdx ws ps at_ v=zrc ws ps at_:=by unfold zdx;rw[if_neg (by omega)]
  refine ⟨hc,e,?_,?_⟩
  ·unfold zcz;rw[e,if_neg (by omega)]
  ·unfold zdc;rw[e,if_neg (by omega),if_neg (by omega)]
 ·right
  by_cases c1:zao v=true
  ·right
   by_cases c2:ps.length=400
   ·have e:zdx ws ps at_ v=7:=by unfold zdx;rw[if_pos hc,if_neg (by rw[c1];simp),if_pos c2]
    refine .inl ⟨hc,c1,c2,e,?_,?_⟩
    ·unfold zcz;rw[e,if_pos (.inr rfl)]
    ·unfold zdc;rw[e,if_neg (by decide),if_pos rfl]
   ·have e:zdx ws ps at_ v=0:=by unfold zdx;rw[if_pos hc,if_neg (by rw[c1];simp),if_neg c2]
    refine .inr ⟨hc,c1,c2,e,?_,?_⟩
    ·unfold zcz;rw[e,if_pos (.inl rfl)]
    ·unfold zdc;rw[e,if_pos rfl]
  ·have c1':zao v=false:=by simpa using c1
   have e:zdx ws ps at_ v=4:=by unfold zdx;rw[if_pos hc,if_pos c1']
   refine .inl ⟨hc,c1',e,?_,?_⟩
   ·unfold zcz;rw[e,if_neg (by decide)]
   ·unfold zdc;rw[e,if_neg (by decide),if_neg (by decide)]
theorem zwy (vW vP:Value) (ws:List Int) (ps:List Se) (at_ x:Int) (w:World) (h:RdBlk w (.agg #[vW,vP]) ws ps) (hp:ps.length≤1048576) :
  Calls Tryz.prog 124 #[.agg #[vW,vP],.int .i64 at_,.int .i64 x] w fun e w'=>∃ vP',e=.returned (.agg #[vW,vP'])∧RdBlk w' (.agg #[vW,vP']) ws (ps ++ [⟨at_,x⟩])∧(∀ k,vP'.ownBlock=some k→w.heap.size≤k)∧Below w.heap.size w w':=by
 obtain ⟨_,_,e0,h1,h2⟩:=h
 cases e0
 have H1:=zaa h1;have H2:=zaa h2;obtain ⟨aW,cW,rfl,_⟩:=h1.shape;obtain ⟨aP,cP,rfl,_⟩:=h2.shape;clear h1 h2
 have hb0:Below w.heap.size w (((w.alloc (.cells #[.slice aW ws.length cW,.slice aP ps.length cP] 43)).alloc (.cells #[.slice none 0 0,.slice none 0 0] 43)).alloc (.cells #[] 150)):=by
  repeat (refine Below.alloc ?_ (by simp <;> omega) _)
  exact Below.refl _ _
 have ho0:(((w.alloc (.cells #[.slice aW ws.length cW,.slice aP ps.length cP] 43)).alloc (.cells #[.slice none 0 0,.slice none 0 0] 43)).alloc (.cells #[] 150)).ownsRow (w.heap.size+2) 150 2 (.slice (some ⟨w.heap.size+1+1,0,none⟩) 0 0) 0 []:=by
  simpa using World.ownsRow_lit (base:=w.heap.size+2) (e:=150) (size:=2) ((w.alloc (.cells #[.slice aW ws.length cW,.slice aP ps.length cP] 43)).alloc (.cells #[.slice none 0 0,.slice none 0 0] 43)) #[] 0 (by simp) (by simp) rfl
 have HO:=zaa ho0;have HB:=zaa hb0;clear ho0 hb0;go_enter Tryz.func124,Tryz.ntmps124;go_wp2_with (at_builtin;refine zak _ rfl (.tmp 7) (.tmp 9) 41 rfl (w.heap.size+2) 150 (.agg #[.int .i64 0,.int .i64 0]) 2 16 Tryz.underlying41 zmk rfl (by decide) _ 0 [] rfl HO.o _ ps.length (ses ps) rfl (Rd.below H2.o HB.o) (yabr ps) (by simp[maxLen];omega) (by omega) (by simp) ?_);intro v1 w1 hown1 hgr1
 have hown1:w1.ownsRow (w.heap.size+2) 150 2 v1 ps.length (ses ps):=by simpa using hown1
 have hz1:w.heap.size+3≤w1.heap.size:=by have:=hgr1.size;simp at this;omega
 have V0:=(hgr1.block w.heap.size (by simp <;> omega) (by simp[Value.ownBlock] <;> omega)).trans (zal (zal (zag rfl)));have V1:=(hgr1.block (w.heap.size+1) (by simp <;> omega) (by simp[Value.ownBlock] <;> omega)).trans (zal (zag (by simp)));have B1:=HB.o.grown hgr1 (by simp <;> omega) (fun k hk=>by simp[Value.ownBlock] at hk;omega);have hB2:=B1.alloc (by omega) (.cells #[.int .i64 at_,.int .i64 x] 150);have V0':=zal (o:=.cells #[.int .i64 at_,.int .i64 x] 150) V0;have V1':=zal (o:=.cells #[.int .i64 at_,.int .i64 x] 150) V1;have ho2:=hown1.alloc (.cells #[.int .i64 at_,.int .i64 x] 150);have hr2:=yavc w1 at_ x;have HV:=zaa (And.intro V0' V1');have HB2:=zaa hB2;have HO2:=zaa ho2;have HR2:=zaa hr2;clear hown1 hgr1 V0 V1 B1 V0' V1' hB2 ho2 hr2;go_wp2_with (at_builtin;refine zak _ rfl (.tmp 10) (.tmp 14) 41 rfl (w.heap.size+2) 150 (.agg #[.int .i64 0,.int .i64 0]) 2 16 Tryz.underlying41 zmk rfl (by decide) _ ps.length (ses ps) rfl HO2.o _ 1 (Se.cells ⟨at_,x⟩) rfl HR2.o (fun u hu=>by simp[Se.cells] at hu;rcases hu with rfl | rfl <;> rfl) (by simp[maxLen];omega) (by omega) (by simp;omega) ?_);intro v2 w2 hown2 hgr2
 have hr3:RdE w2 v2 (ps ++ [⟨at_,x⟩]):=by
  have:=(zai hown2).rd;unfold RdE;rw[yacg,List.length_append];exact this
 have L3:=zaa (fun k hk=>(hown2.lt k hk).1);have R3:Hid (RdE w2 v2 (ps ++ [⟨at_,x⟩])):=hr3;obtain ⟨_,a2,c2,e2,_⟩:=hr3;simp only[List.length_append,List.length_singleton] at e2;subst e2
 have hz2:w1.heap.size+1≤w2.heap.size:=by have:=hgr2.size;simp at this;omega
 have hne:∀ b,b < w.heap.size+2→¬ some b=Value.ownBlock v1:=by
  intro b hb e;have:=(HO2.o.lt b e.symm).1;omega
 have V0:=(hgr2.block w.heap.size (by simp <;> omega) (hne _ (by omega))).trans HV.o.1;have V1:=(hgr2.block (w.heap.size+1) (by simp <;> omega) (hne _ (by omega))).trans HV.o.2;have B2:=zaa (HB2.o.grown hgr2 (by simp <;> omega) (fun k hk=>by have:=(HO2.o.lt k hk).1;omega));obtain ⟨z1,z2,z3,z4⟩:=zad V0;obtain ⟨t1,t2,t3,t4⟩:=zad V1;clear hown2 hgr2 V0 V1;go_wp2;refine bodyPost_ret (v:=.agg #[.slice aW ws.length cW,.slice a2 (ps.length+1) c2]) (by simp[results,Tryz.results124,go_sem,t1,t2]) rfl ?_;have B3:=((B2.o.setCell (p:=⟨w.heap.size,1,none⟩) (Nat.le_refl _) (.slice a2 (ps.length+1) c2)).setCell (p:=⟨w.heap.size+1,0,none⟩) (by simp only;omega) (.slice aW ws.length cW)).setCell (p:=⟨w.heap.size+1,1,none⟩) (by simp only;omega) (.slice a2 (ps.length+1) c2);refine ⟨_,rfl,⟨_,_,rfl,Rd.below H1.o B3,Rd.same R3.o (by simp) (fun b _ hb=>?_)⟩,fun b hb=>by have:=L3.o b hb;omega,B3⟩;have:=L3.o b hb;rw[Below.heap_setCell _ _ _ _ (by simp only;omega),Below.heap_setCell _ _ _ _ (by simp only;omega),Below.heap_setCell _ _ _ _ (by simp only;omega)]
def ztd (ws:List Int) (ps:List Se):List Int:=ps.foldl (fun acc p=>acc.set p.at_.toNat p.val) ws
theorem zwl (ws:List Int) (ps:List Se) (p:Se):ztd ws (ps ++ [p])=(ztd ws ps).set p.at_.toNat p.val:=by simp[ztd]
theorem zir (ws:List Int):∀ ps:List Se,(ztd ws ps).length=ws.length:=by
 intro ps;unfold ztd
 induction ps generalizing ws with
 | nil=>rfl
 | cons p ps ih=>rw[List.foldl_cons,ih];simp
def barC (ws:List Int) (ps:List Se):Int:=if zbp ws ps=true then 0 else 1
def ziu (ws:List Int) (ps:List Se):List Int:=if zbp ws ps=true then ztd ws ps else []
theorem yatp {ws:List Int} {ps:List Se} (h:zbp ws ps=false):barC ws ps=1∧ziu ws ps=[]:=by
 unfold barC ziu;rw[h];exact ⟨rfl,rfl⟩
theorem yavr {ws:List Int} {ps:List Se} (h:zbp ws ps=true):barC ws ps=0∧ziu ws ps=ztd ws ps:=by
 unfold barC ziu;rw[h];exact ⟨rfl,rfl⟩
structure BarInv (w wr:World) (eZ:TypeId) (ws:List Int) (ps:List Se) (lo hi:Nat) (vW vP:Value) (m:Nat):Prop where
 words:Row wr eZ 1 lo hi vW ws.length (zav (ztd ws (ps.take m)))
 pend:Row wr 150 2 lo hi vP ps.length (ses ps)
 box:wr.heap[w.heap.size]?=some (.cells #[vW,vP] 43 (0,0))
 res:wr.heap[w.heap.size+1]?=some (.cells #[.slice none 0 0,.slice none 0 0] 43 (0,0))
 below:Below w.heap.size w wr
 size:hi≤wr.heap.size
theorem BarInv.hit {w wr:World} {eZ:TypeId} {ws:List Int} {ps:List Se} {lo hi:Nat} {b n cap:Nat} {vP:Value} {m:Nat} (h:BarInv w wr eZ ws ps lo hi (.slice (some ⟨b,0,none⟩) n cap) vP m) (he:eZ≠150) (hm:m < ps.length) (hlo:w.heap.size+2≤lo) (hn:n=ws.length) :
  BarInv w (wr.setCell ⟨b,ps[m].at_.toNat,none⟩ (.int .i64 ps[m].val)) eZ ws ps lo hi (.slice (some ⟨b,0,none⟩) n cap) vP (m+1):=by
 subst hn;obtain ⟨h1,h3,h4,h5,h6,h7⟩:=h
 obtain ⟨_,hb1,hb2,_⟩:=h1.at
 have e1:ztd ws (ps.take (m+1))=(ztd ws (ps.take m)).set ps[m].at_.toNat ps[m].val:=by rw[zbd ps m hm,zwl]
 refine ⟨?_,?_,?_,?_,?_,?_⟩
 ·rw[e1,← zeo];exact h1.stored _ _
 ·exact h3.apart h1 (Ne.symm he) (World.ownsRow.stored h1.1 _ _).2
 ·rw[Below.heap_setCell _ _ _ _ (by simp only;omega)];exact h4
 ·rw[Below.heap_setCell _ _ _ _ (by simp only;omega)];exact h5
 ·exact h6.setCell (by simp only;omega) _
 ·simpa using h7
theorem BarInv.drew {w wr:World} {eZ:TypeId} {ws:List Int} {ps:List Se} {lo hi:Nat} {vW vP:Value} {m:Nat} (h:BarInv w wr eZ ws ps lo hi vW vP m):BarInv w wr.drew eZ ws ps lo hi vW vP m:=by
 obtain ⟨h1,h2,h4,h5,h6,h7⟩:=h;exact ⟨h1.same (fun _ _ _=>rfl),h2.same (fun _ _ _=>rfl),h4,h5,h6.drew,h7⟩
theorem zro (v:Value) (ws:List Int) (ps:List Se) (w:World) (h:RdBlk w v ws ps) (hw:ws.length≤1048576) (hp:ps.length≤1048576) (hok:∀ j (h:j < ps.length),0≤ps[j].at_∧ps[j].at_ < ws.length) :
  Calls Tryz.prog 125 #[v] w fun e w'=>∃ v',e=.returned v'∧RowBlk w' w.heap.size w'.heap.size v' (ztd ws ps) []∧Below w.heap.size w w':=by
 have HR:=zaa h;obtain ⟨vW,vP,rfl,h1,h2⟩:=h;obtain ⟨aW,cW,rfl,_⟩:=h1.shape;obtain ⟨aP,cP,rfl,_⟩:=h2.shape;have HOK:=zaa hok;clear h1 h2 hok
 have hb0:Below w.heap.size w ((w.alloc (.cells #[.slice aW ws.length cW,.slice aP ps.length cP] 43)).alloc (.cells #[.slice none 0 0,.slice none 0 0] 43)):=by
  repeat (refine Below.alloc ?_ (by simp <;> omega) _)
  exact Below.refl _ _
 go_enter Tryz.func125,Tryz.ntmps125;go_wp2_with fail;refine (zta _ ws ps _ (HR.o.below hb0) (by omega) (by omega)).mono ?_;rintro e w2 ⟨v2,rfl,hr2,hb2⟩;obtain ⟨vW2,vP2,rfl,hI2,hS2⟩:=hr2;obtain ⟨aW2,cW2,rfl⟩:=RdI.form hI2.rd rfl;obtain ⟨aP2,cP2,rfl⟩:=RdE.form hS2.rd rfl;obtain ⟨eZ,heZ,hI2⟩:=hI2;simp only[World.size_alloc] at hI2 hS2;have HE:=zaa heZ
 have hz2:w.heap.size+2≤w2.heap.size:=by have:=hb2.size;simp at this;omega
 have V0:=(hb2.block w.heap.size (by simp <;> omega)).trans (zal (zag rfl));have V1:=(hb2.block (w.heap.size+1) (by simp)).trans (zag (by simp));have B2:=zab hb0 hb2 (by simp <;> omega);obtain ⟨x1,x2,x3,x4⟩:=zad V0
 have INV:Hid (BarInv w ((w2.setCell ⟨w.heap.size,0,none⟩ (.slice aW2 ws.length cW2)).setCell ⟨w.heap.size,1,none⟩ (.slice aP2 ps.length cP2)) eZ ws ps (w.heap.size+1+1) w2.heap.size (.slice aW2 ws.length cW2) (.slice aP2 ps.length cP2) 0):=by
  refine ⟨?_,?_,?_,?_,?_,?_⟩
  ·refine hI2.same fun b hb1 _=>?_
   rw[Below.heap_setCell _ _ _ _ (by simp only;omega),Below.heap_setCell _ _ _ _ (by simp only;omega)]
  ·refine hS2.same fun b hb1 _=>?_
   rw[Below.heap_setCell _ _ _ _ (by simp only;omega),Below.heap_setCell _ _ _ _ (by simp only;omega)]
  ·exact zga (zep V0 _) _
  ·rw[Below.heap_setCell _ _ _ _ (by simp only;omega),Below.heap_setCell _ _ _ _ (by simp only;omega)];exact V1
  ·exact (B2.setCell (by simp only;omega) _).setCell (by simp only;omega) _
  ·simp
 clear hb0 hb2 hI2 hS2 V0 V1 B2 heZ;go_wp2
 go_loopw [3] (fun i wr=>∃ m:Nat,m≤ps.length∧i=.int .i64 m∧Hid (BarInv w wr eZ ws ps (w.heap.size+1+1) w2.heap.size (.slice aW2 ws.length cW2) (.slice aP2 ps.length cP2) m)) (fun i _=>ps.length - (intOf i).toNat)
 case atStart=>exact ⟨0,by omega,rfl,INV⟩
 case round =>
  obtain ⟨m,hm,rfl,I⟩:=hrel;obtain ⟨y1,y2,y3,y4⟩:=zad I.o.box
  by_cases hlt:m < ps.length
  ·obtain ⟨_,ao',cap',e',_,hc⟩:=I.o.pend.rd
   cases e'
   obtain ⟨b,o,rfl,hbl,_⟩:=hc (by omega)
   obtain ⟨rfl,_,_,_,hfr,hcl⟩:=I.o.pend.at
   have e0:=(hcl (m*2) (by omega)).trans (zgx _ m hlt);have e1:=(hcl (m*2+1) (by omega)).trans (zjj _ m hlt);obtain ⟨q0,q1⟩:=HOK.o m hlt;obtain ⟨_,aw',cw',ew',_,hcw⟩:=I.o.words.rd
   cases ew'
   obtain ⟨bw,ow,rfl,hblw,_⟩:=hcw (by omega)
   obtain ⟨rfl,_,_,_,hfrw,hclw⟩:=I.o.words.at
   have hj:ps[m].at_.toNat < (ztd ws (ps.take m)).length:=by rw[zir];omega
   have g0:=hfrw ps[m].at_.toNat;have g1:=(hclw ps[m].at_.toNat (by omega)).trans (zay _ _ hj);have q1':ps[m].at_ < (ws.length:Int):=q1
   have hlt':(m:Int) < (ps.length:Int):=by omega
   have hge:(0:Int)≤(m:Int):=by omega
   clear hc hfr hcl hcw hfrw hclw;go_wp2
   go_region
   all_goals
    go_wp2
    go_roundw
    case rel =>
     refine ⟨m+1,by omega,by go_num,?_⟩
     first | exact (I.o.hit HE.o hlt (Nat.le_refl _) rfl).drew | exact I.o.drew.hit HE.o hlt (Nat.le_refl _) rfl
    case measure=>simp[intOf];omega
  ·have e:m=ps.length:=by omega
   subst e;have hsz:=I.o.size;obtain ⟨z1,z2,z3,z4⟩:=zad (zal (o:=.cells #[] 150) I.o.box);obtain ⟨t1,t2,t3,t4⟩:=zad (zal (o:=.cells #[] 150) I.o.res)
   have ho:(wr.alloc (.cells #[] 150)).ownsRow wr.heap.size 150 2 (.slice (some ⟨wr.heap.size,0,none⟩) 0 0) 0 []:=by
    simpa using World.ownsRow_lit (base:=wr.heap.size) (e:=150) (size:=2) wr #[] 0 (by simp) (by simp) rfl
   have HO:=zaa ho;clear ho;go_wp2;have I2:=I.o;refine bodyPost_ret (v:=.agg #[.slice aW2 ws.length cW2,.slice (some ⟨wr.heap.size,0,none⟩) 0 0]) (by simp[results,Tryz.results125,go_sem,t1,t2]) rfl ?_;refine ⟨_,rfl,⟨_,_,rfl,⟨eZ,HE.o,?_⟩,?_⟩,(((I2.below.alloc (by omega) _).setCell (by simp only;omega) _).setCell (by simp only;omega) _).setCell (by simp only;omega) _⟩
   ·rw[zir];have:=I2.words;rw[List.take_length] at this;refine ((this.alloc hsz (.cells #[] 150)).same fun b h1 h2=>?_).wide (by omega) (by simp;omega);rw[Below.heap_setCell _ _ _ _ (by simp only;omega),Below.heap_setCell _ _ _ _ (by simp only;omega),Below.heap_setCell _ _ _ _ (by simp only;omega)]
   ·refine ((zai HO.o).same fun b h1 h2=>?_).wide (by omega) (by simp);rw[Below.heap_setCell _ _ _ _ (by simp only;omega),Below.heap_setCell _ _ _ _ (by simp only;omega),Below.heap_setCell _ _ _ _ (by simp only;omega)]
end Go.Proofs.YtahiphgmhndgaaaGreatDoor
