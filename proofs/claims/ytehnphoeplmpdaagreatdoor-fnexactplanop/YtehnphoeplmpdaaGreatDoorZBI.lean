/- Several texts laid together: PlB, PcG, PlC. -/
import Derived.Test.YtehnphoeplmpdaaGreatDoorZAS
import Derived.Test.YtehnphoeplmpdaaGreatDoorZAG
import Derived.Maps.OwnSet
import Derived.Deep.LoopGhost
import Derived.Test.YtehnphoeplmpdaaGreatDoorZBH
set_option maxRecDepth 100000
set_option maxHeartbeats 8000000
namespace Go.Proofs.YtehnphoeplmpdaaGreatDoor
open Go.RowKit Go.Maps Go.MapKept Go.ChangeMaps Go.WideShapes
open Go.WideElems (Fit rd rg pl rd_val elemAt)
theorem zto {H:Type} {P:Program} {k e t:TypeId} {R:Value→Option (DataW H×List MemPlace)} {w:World} {b n:Nat} {D:DataW H} (h:w.ownsMap P k R b n D) (ht:P.underlying t=some (.map k e)) (ty:TypeId) :
  ∃ w',(Builtin.clear_ #[t] ty #[.map (some b)]).run P w=.ok (.tuple #[]) w'∧w'.ownsMap P k R b 0 (.map [])∧w.grownBy w' (some b):=by
 obtain ⟨es,clock,hb,F,hs,rfl⟩:=h;refine ⟨setBlock w b (.map #[] clock),?_,⟨#[],clock,heap_setBlock_same hb _,⟨by simp,stamped_empty clock,by simp⟩,Nat.le_refl _,rfl⟩,⟨rfl,rfl,rfl,by simp[setBlock],fun i _ hi=>heap_setBlock_other hb _ (fun e=>hi (by rw[e]))⟩⟩;simp[Builtin.clear_,run_underlying ht,MapKept.run_getObj_map hb,MapKept.run_setObj_map _ hb,Result.andThen,setBlock]
theorem mapU:Tryz.prog.underlying 265=some (.map 9 3):=by kernel_rfl
theorem strU:Tryz.prog.underlying 9=some .string:=by kernel_rfl
theorem intU:Tryz.prog.underlying 3=some (.int .i64):=by kernel_rfl
theorem strK:Keyed Tryz.prog 9:=string_keyed strU
theorem intZ (w:World):(zeroValue 3).run Tryz.prog w=.ok (.int .i64 0) w:=by kernel_rfl
def Mp (w:World) (b:Nat) (D:DataW Unit):Prop:=w.ownsMap Tryz.prog 9 (plainElem Tryz.prog 3) b 4096 D
theorem Mp.lt {w:World} {b:Nat} {D:DataW Unit} (h:Mp w b D):b < w.heap.size:=World.ownsMap.lt h
theorem Mp.below {w w':World} {b:Nat} {D:DataW Unit} (h:Mp w b D) (hb:Below w.heap.size w w'):Mp w' b D:=by
 have hl:=h.lt;obtain ⟨es,cl,q,r⟩:=h;exact ⟨es,cl,(hb.block b hl).trans q,r⟩
theorem grownB {w w':World} (h:Below w.heap.size w w') (row:Option Nat):w.grownBy w' row:=⟨h.os,h.tape,h.output,h.size,fun i hi _=>h.block i hi⟩
theorem Mp.ne {w:World} {b:Nat} {D:DataW Unit} (h:Mp w b D) {a:Addr} {v:Value} (hc:w.cell? a=some v):some a.block≠some b:=by
 obtain ⟨es,cl,q,_⟩:=h;intro e;injection e with e;subst e;simp[World.cell?,q] at hc
theorem Mp.neg {w:World} {b:Nat} {D:DataW Unit} (h:Mp w b D) {g:Nat} {cs:Array Value} {t:TypeId} {fr} (hc:w.heap[g]?=some (.cells cs t fr)):some g≠some b:=by
 obtain ⟨es,cl,q,_⟩:=h;intro e;injection e with e;subst e;rw[q] at hc
 cases hc
theorem FD.grown {w w':World} {b:Nat} {D:DataW Unit} (h:FD w) (m:Mp w b D) (hg:w.grownBy w' (some b)):FD w':=by
 have hl:=h.lt;obtain ⟨t,fr,h⟩:=h;exact ⟨t,fr,(hg.block _ hl (m.neg h)).trans h⟩
theorem zlj (v:Value) (ws:List Ino) (ps:List Den) (d:Int) (b:Nat) (D:DataW Unit) (w:World) (h:RdIm w v ws ps) (hi:zay ws ps=true) (hm:Mp w b D) (hF:FD w) :
  Calls Tryz.prog 257 #[.map (some b),v,.int .i64 d] w fun e w'=>e=.returned (.tuple #[])∧Mp w' b (mpD ps d ps.length)∧w.grownBy w' (some b):=by
 have HL:=zaa (zao hi).2.1;have HF:=zaa (fun j hj=>zrd hi j hj);have HN:=zaa (fun j hj=>zfk hi j hj);obtain ⟨vW,vP,rfl,h1,h2⟩:=h;obtain ⟨aW,cW,rfl,_⟩:=h1.shape;obtain ⟨aP,cP,rfl,_,hcP⟩:=h2.shape;have HZ:=zaa hcP;clear h1 h2 hcP hi
 obtain ⟨W,hW⟩:∃ W,W=w.alloc (.cells #[.slice aW ws.length cW,.slice aP ps.length cP] 79):=⟨_,rfl⟩
 have BW:Hid (Below w.heap.size w W):=by rw[hW];exact (Below.refl _ _).alloc (Nat.le_refl _) _
 have M:Hid (Mp W b D):=hm.below BW.o;have hbl:b < w.heap.size:=hm.lt;have BL:=zaa hbl
 have CA:Hid (W.cell? ⟨w.heap.size,1,none⟩=some (.slice aP ps.length cP)):=by
  have:W.heap[w.heap.size]?=some (.cells #[.slice aW ws.length cW,.slice aP ps.length cP] 79 (0,0)):=by rw[hW];exact zah rfl
  exact (zac this).2.1
 have F:=zaa (hF.below BW.o);have MW:=zaa hm;clear hF hm hbl;go_enter Tryz.func257,Tryz.ntmps257;go_wp2_with fail;rw[← hW];clear hW;obtain ⟨w1,hrun,hown1,hg1⟩:=zto M.o mapU 0;rw[hrun];clear hrun;have x1:=hg1.cell CA.o (M.o.ne CA.o);have F1:=zaa (F.o.grown M.o hg1);have G1:=zaa ((grownB BW.o (some b)).trans hg1);have hz1:w.heap.size≤w1.heap.size:=G1.o.size;have O1:=zaa hown1;clear hown1 hg1 CA M F;go_wp2
 go_loopg [6,7,12] ps.length (fun g _ _ i wr=>∃ k:Nat,k+g=ps.length∧i=.int .i64 k∧Hid (wr.ownsMap Tryz.prog 9 (plainElem Tryz.prog 3) b k (mpD ps d k))∧Hid (w.grownBy wr (some b))∧Hid (FD wr))
 case atStart=>exact ⟨0,by omega,rfl,O1,G1,F1⟩
 case round =>
  obtain ⟨k,hk,rfl,O,G,F⟩:=hrel
  have k0:(0:Int)≤(k:Int):=by omega
  by_cases hlt:k < ps.length
  ·obtain ⟨bP,o,rfl,hbl,hcell⟩:=HZ.o (by omega);obtain ⟨a0,a1,a2⟩:=hcell k hlt;have d0:=G.o.cell a0 (MW.o.ne a0);have d1:=G.o.cell a1 (MW.o.ne a1);have d2:=G.o.cell a2 (MW.o.ne a2)
   have k1:(k:Int) < (ps.length:Int):=by omega
   have DF:=zjy ps[k];have FC:=HF.o k hlt;have PE:=HN.o k hlt
   have STEP:=zaa (show mpD ps d (k+1)=if decide (0≤ps[k].child) && ps[k].dir == d then (mpD ps d k).put (zqf ps[k].name) (.lit (.int .i64 (k:Int))) else mpD ps d k by
    rw[← zbc hlt,← zhj hlt];rfl)
   have k4096:k < 4096:=by have:=HL.o;omega
   have hg24:gk - 1 < gk:=by omega
   have hk':(k+1)+(gk - 1)=ps.length:=by omega
   clear a0 a1 a2 hcell;generalize ps[k]=x at *;have BA:Hid (Below wr.heap.size wr (wr.alloc (.cells #[.int .i64 x.dir,.string x.name,.int .i64 x.child] 185))):=(Below.refl _ _).alloc (Nat.le_refl _) _;have OB:Hid ((wr.alloc (.cells #[.int .i64 x.dir,.string x.name,.int .i64 x.child] 185)).ownsMap Tryz.prog 9 (plainElem Tryz.prog 3) b k (mpD ps d k)):=O.o.alloc _;have FB:=zaa (F.o.below BA.o);have GB:=zaa (G.o.trans (grownB BA.o (some b)));obtain ⟨f0,f1,f2⟩:=FD.cells FB.o;clear O F G
   cases hf:x.freeB with
   | true =>
    have O2:Hid ((wr.alloc (.cells #[.int .i64 x.dir,.string x.name,.int .i64 x.child] 185)).ownsMap Tryz.prog 9 (plainElem Tryz.prog 3) b (k+1) (mpD ps d (k+1))):=by
     unfold Hid;rw[STEP.o,if_neg (by rw[hf] at FC;rw[← FC];simp)];exact OB.o.mono (by omega)
    rw[hf] at DF;clear FC PE STEP OB BA hf;go_wp2
    go_roundg (gk - 1)
    case measure=>exact hg24
    case rel=>exact ⟨k+1,hk',by go_num,O2,GB,FB⟩
   | false =>
    have fc:0≤x.child:=by
     rw[hf] at FC;have:=FC.symm;simpa using this
    have hn:x.name.size≤maxLen:=by
     rcases PE with q | q
     ·omega
     ·have:=(zdc q.2.2.1).2.1;unfold maxLen;omega
    rw[hf] at DF;rw[decide_eq_true fc,Bool.true_and] at STEP;clear FC PE hf
    cases q:(x.dir == d) with
    | false =>
     have O2:Hid ((wr.alloc (.cells #[.int .i64 x.dir,.string x.name,.int .i64 x.child] 185)).ownsMap Tryz.prog 9 (plainElem Tryz.prog 3) b (k+1) (mpD ps d (k+1))):=by
      unfold Hid;rw[STEP.o,if_neg (by rw[q];decide)];exact OB.o.mono (by omega)
     clear STEP OB BA;go_wp2
     go_roundg (gk - 1)
     case measure=>exact hg24
     case rel=>exact ⟨k+1,hk',by go_num,O2,GB,FB⟩
    | true =>
     rw[q,if_pos rfl] at STEP;have key:Hid (keyOf Tryz.prog 9 (.string x.name)=some (zqf x.name)):=WideMaps.keyOf_string_mk strU hn;clear BA hn fc;go_wp2_with (at_mapUpdate;refine wpList_mapUpdate_own _ rfl _ _ _ 265 rfl 9 3 strK mapU _ b k _ rfl OB.o (by unfold maxLen;omega) _ _ _ rfl rfl key.o _ [] (plainElem_int intU (WalkArith.wf_i64 (by omega))) ?_);intro wN hownN hgrN;rw[← STEP.o] at hownN;have O2:=zaa hownN;have F2:=zaa (FB.o.grown (OB.o.mono (by omega)) hgrN);have G2:=zaa (GB.o.trans hgrN);clear hownN hgrN OB FB GB STEP;go_wp2
     go_roundg (gk - 1)
     case measure=>exact hg24
     case rel=>exact ⟨k+1,hk',by go_num,O2,G2,F2⟩
  ·obtain rfl:k=ps.length:=by omega
   go_wp2;refine bodyPost_end (v:=.tuple #[]) (by simp[results,Tryz.results257,go_sem]) rfl ?_;exact ⟨rfl,O.o.mono (by have:=HL.o;omega),G.o⟩
end Go.Proofs.YtehnphoeplmpdaaGreatDoor

namespace Go.Proofs.YtehnphoeplmpdaaGreatDoor
open Go.RowKit
theorem zit (v:Value) (ws:List Ino) (ps:List Den) (s:ByteArray) (w:World) (h:RdIm w v ws ps) (hw:ws.length≤1048576) (hp:ps.length≤1048576) (hT:TS w) (hE:ED w) (hF:FD w) (hr:∀ k (h:k < ws.length),ws[k].R) (hs:∀ k (h:k < ps.length),ps[k].name.size≤maxLen) :
  Calls Tryz.prog 295 #[v,.string s] w fun e w'=>e=.returned (.tuple #[.int .i64 (paR ws ps s).1,.string (paR ws ps s).2.1,.int .i64 (paR ws ps s).2.2])∧Below w.heap.size w w':=by
 have HR:=zaa h;have LS:=zaa (fun w1 (hb:Below w.heap.size w w1)=>zpv v ws ps s w1 (h.below hb) hw hp (hT.below hb) (hE.below hb) (hF.below hb) hr hs);have LG:=zaa (fun vL ns w1 h hL hi hn hs=>zrn v vL ws ps ns w1 h hL hi hn hs);have LD:=zaa (fun (i:Nat) w1 h (hl:ws.length=16) (hi16:i < 16)=>zid v ws ps (i:Int) w1 h hl (by omega));have SS:=zaa (@zwr s);have SL:=zaa (@zse s);obtain ⟨NO,YES⟩:=yarn ws ps s;have NO:=zaa NO;have YES:=zaa YES;obtain ⟨vW,vP,rfl,h1,h2⟩:=h;obtain ⟨aW,cW,rfl,_,_⟩:=h1.shape;obtain ⟨aP,cP,rfl,_,_⟩:=h2.shape;clear h1 h2 hr hs hT hE hF
 have CA:Hid (∀ w',Below (w.alloc (.cells #[.slice aW ws.length cW,.slice aP ps.length cP] 79)).heap.size (w.alloc (.cells #[.slice aW ws.length cW,.slice aP ps.length cP] 79)) w'→w'.cell? ⟨w.heap.size,0,none⟩=some (.slice aW ws.length cW)∧w'.cell? ⟨w.heap.size,1,none⟩=some (.slice aP ps.length cP)):=fun w' hb=>by
  have:w'.heap[w.heap.size]?=some (.cells #[.slice aW ws.length cW,.slice aP ps.length cP] 79 (0,0)):=(hb.block _ (by simp)).trans (zah rfl);exact ⟨(zac this).1,(zac this).2.1⟩
 have BW:Hid (Below w.heap.size w (w.alloc (.cells #[.slice aW ws.length cW,.slice aP ps.length cP] 79))):=(Below.refl _ _).alloc (Nat.le_refl _) _;obtain ⟨x0,x1⟩:=CA.o _ (Below.refl _ _);generalize siC ws ps s=sc at *;generalize siL ws ps s=sl at *;generalize lkR ws ps s=res2 at *;generalize paR ws ps s=res at *
 by_cases c:sc=0
 case neg =>
  obtain ⟨_,rfl⟩:=NO.o c
  have q:(sc != 0)=true:=by rw[bne_iff_ne];exact c
  clear NO YES c;go_enter Tryz.func295,Tryz.ntmps295;go_wp2_with fail;refine (LS.o _ BW.o).mono ?_;rintro e w1 ⟨v1,rfl,hr1,hb1⟩;have B1:=zaa (zab BW.o hb1 BW.o.size);clear hr1 hb1 x0 x1;go_wp2;go_ret3;exact ⟨rfl,B1.o⟩
 obtain ⟨c1,rfl,_,hres⟩:=YES.o c;have C1:=zaa c1;have EL2:=zaa hres;have WR:=zaa (fun ns=>zkk c1 ns 0 (by omega));have L16:=zaa (zao c1).1;subst c;clear NO YES c1 hres;generalize spL s=ns at *
 by_cases c2:ns=[]
 ·subst c2;obtain rfl:=EL2.o;clear EL2 LG;go_enter Tryz.func295,Tryz.ntmps295;go_wp2_with fail;refine (LS.o _ BW.o).mono ?_;rintro e w1 ⟨v1,rfl,hr1,hb1⟩;have B1:=zaa (zab BW.o hb1 BW.o.size);obtain ⟨aL,cL,rfl,_,_⟩:=hr1.shape;clear hr1 hb1 x0 x1;simp only[List.length_nil];go_wp2;go_ret3;exact ⟨rfl,B1.o⟩
 obtain ⟨xs,x,rfl⟩:=zxw c2;rw[ztg] at EL2;clear c2;have EP:=zaa (show paN ws ps xs x=if (wk ws ps 0 xs).2=0 then (if zai ws (wk ws ps 0 xs).1=2 then ((wk ws ps 0 xs).1,x,0) else (0,⟨#[]⟩,10)) else (0,⟨#[]⟩,(wk ws ps 0 xs).2) from rfl);rw[EP.o] at EL2;clear EP;have sl:=SL.o;rw[List.length_append,List.length_cons,List.length_nil,Nat.zero_add] at sl
 have S1:Hid (∀ k (h:k < xs.length),1≤xs[k].size):=fun k hk=>by
  have:=SS.o k (by rw[List.length_append];omega);rw[List.getElem_append_left hk] at this;exact this
 have wr1:=WR.o xs;have LW2:=zaa (fun vL w1 h hL=>LG.o vL xs w1 h hL C1.o (by omega) S1.o)
 obtain ⟨z,hz⟩:∃ z:Nat,(wk ws ps 0 xs).1=(z:Int):=⟨((wk ws ps 0 xs).1).toNat,by omega⟩
 have z16:z < 16:=by omega
 rw[hz] at EL2 LW2;clear LG WR SL SS S1 wr1 hz;have LD2:=zaa (fun w1 h=>LD.o z w1 h L16.o z16);clear LD;generalize (wk ws ps 0 xs).2=wc at *;go_enter Tryz.func295,Tryz.ntmps295;go_wp2_with fail;refine (LS.o _ BW.o).mono ?_;rintro e w1 ⟨v1,rfl,hr1,hb1⟩;have B1:=zaa (zab BW.o hb1 BW.o.size);have BA:=zaa hb1;have hbn:(w.alloc (.cells #[.slice aW ws.length cW,.slice aP ps.length cP] 79)).heap.size≤w1.heap.size:=hb1.size;clear x0 x1;obtain ⟨x0,x1⟩:=CA.o _ hb1;have R1:=zaa hr1;obtain ⟨aL,cL,rfl,hcap,hcL⟩:=hr1.shape;obtain ⟨b,o,rfl,hbl,hcell⟩:=hcL (by rw[List.length_append];simp)
 have hx:w1.cell? ⟨b,o+xs.length,none⟩=some (.string x):=by
  have:=hcell xs.length (by rw[List.length_append];simp);simpa using this
 have RT:Hid (RdT w1 (.slice (some ⟨b,o,none⟩) xs.length cL) xs):=by
  have:=znk R1.o (m:=xs.length) (by rw[List.length_append];omega);rw[List.take_left] at this;exact this
 rw[List.length_append,List.length_cons,List.length_nil,Nat.zero_add] at hcap;simp only[List.length_append,List.length_cons,List.length_nil,Nat.zero_add];clear hr1 hb1 hcL hcell R1 LS;generalize xs.length=n at *
 have n0:(((n+1:Nat):Int) == 0)=false:=by rw[beq_eq_false_iff_ne];omega
 have nw:IntKind.i64.wrap (((n+1:Nat):Int) - 1)=(n:Int):=by
  rw[show (((n+1:Nat):Int) - 1)=(n:Int) by omega,IntKind.wrap_i64];omega
 have ncap:(n:Int)≤(cL:Int):=by omega
 have nw2:IntKind.i64.wrap ((n:Int)+1 - 1)=(n:Int):=by rw[IntKind.wrap_i64];omega
 have nw3:IntKind.i64.wrap (n:Int)=(n:Int):=by rw[IntKind.wrap_i64];omega
 have nn0:(0:Int)≤(n:Int):=by omega
 have nn1:(n:Int) < ((n+1:Nat):Int):=by omega
 have nn2:(n:Int) < (n:Int)+1:=by omega
 have SK:Hid (∀ w',Below w1.heap.size w1 w'→w'.cell? ⟨w.heap.size,0,none⟩=some (.slice aW ws.length cW)∧w'.cell? ⟨w.heap.size,1,none⟩=some (.slice aP ps.length cP)):=fun w' hb=>CA.o w' (zab BA.o hb hbn)
 have HX:Hid (∀ w',Below w1.heap.size w1 w'→w'.cell? ⟨b,o+n,none⟩=some (.string x)):=fun w' hb=>(hb.cell (p:=⟨b,o+n,none⟩) hbl).trans hx
 have LW3:=zaa (fun w2 (hb:Below w1.heap.size w1 w2)=>LW2.o _ w2 (HR.o.below (zab B1.o hb B1.o.size)) (Rd.below RT.o hb));clear LW2 RT hx
 by_cases q:wc=0
 case neg =>
  rw[if_neg q] at EL2;obtain rfl:=EL2.o
  have q1:(wc != 0)=true:=by rw[bne_iff_ne];exact q
  clear EL2 q;go_wp2_with fail
  go_region_held3 (fun w'=>w'.cell? ⟨w.heap.size,0,none⟩=some (.slice aW ws.length cW)∧w'.cell? ⟨w.heap.size,1,none⟩=some (.slice aP ps.length cP))
   (exact SK.o _ (by repeat (first | exact BF.o | exact Below.refl _ _ | refine Below.drew ?_)))
   (first
    | (go_at_call 176;refine (LW3.o _ (by repeat (first | exact Below.refl _ _ | refine Below.drew ?_))).mono ?_;rintro e w2 ⟨rfl,hb2⟩;have BF:Hid (Below w1.heap.size w1 w2):=(by first | exact hb2 | exact zab (by repeat (first | exact Below.refl _ _ | refine Below.drew ?_)) hb2 (Nat.le_refl _));clear hb2))
  all_goals
   have B3:=zaa (zab B1.o BF.o B1.o.size);clear SK x0 x1;go_wp2;go_ret3;exact ⟨rfl,(by repeat (first | exact B3.o | refine Below.drew ?_))⟩
 rw[if_pos q] at EL2;subst q
 by_cases r:zai ws z=2
 case neg =>
  rw[if_neg r] at EL2;obtain rfl:=EL2.o
  have r1:(zai ws z == 2)=false:=by rw[beq_eq_false_iff_ne];exact r
  rw[r1] at LD2;clear EL2 r r1;go_wp2_with fail
  go_region_held3 (fun w'=>w'.cell? ⟨w.heap.size,0,none⟩=some (.slice aW ws.length cW)∧w'.cell? ⟨w.heap.size,1,none⟩=some (.slice aP ps.length cP))
   (exact SK.o _ (by repeat (first | exact BF.o | exact Below.refl _ _ | refine Below.drew ?_)))
   (first
    | (go_at_call 176;refine (LW3.o _ (by repeat (first | exact Below.refl _ _ | refine Below.drew ?_))).mono ?_;rintro e w2 ⟨rfl,hb2⟩;have BF:Hid (Below w1.heap.size w1 w2):=(by first | exact hb2 | exact zab (by repeat (first | exact Below.refl _ _ | refine Below.drew ?_)) hb2 (Nat.le_refl _));clear hb2))
  all_goals
   have B3:=zaa (zab B1.o BF.o B1.o.size);clear x0 x1;obtain ⟨x0,x1⟩:=SK.o _ BF.o;clear SK;go_wp2_with fail;refine (LD2.o _ (HR.o.below (by repeat (first | exact B3.o | refine Below.drew ?_)))).mono ?_;rintro e w3 ⟨rfl,hb3⟩;have B4:Hid (Below w.heap.size w w3):=zab (by repeat (first | exact B3.o | refine Below.drew ?_)) hb3 (by have:=B3.o.size;simp <;> omega);clear hb3 x0 x1;go_wp2;go_ret3;exact ⟨rfl,B4.o⟩
 rw[if_pos r] at EL2;obtain rfl:=EL2.o
 have r1:(zai ws z == 2)=true:=by rw[r];rfl
 rw[r1] at LD2;clear EL2 r r1;go_wp2_with fail
 go_region_held3 (fun w'=>w'.cell? ⟨w.heap.size,0,none⟩=some (.slice aW ws.length cW)∧w'.cell? ⟨w.heap.size,1,none⟩=some (.slice aP ps.length cP))
  (exact SK.o _ (by repeat (first | exact BF.o | exact Below.refl _ _ | refine Below.drew ?_)))
  (first
   | (go_at_call 176;refine (LW3.o _ (by repeat (first | exact Below.refl _ _ | refine Below.drew ?_))).mono ?_;rintro e w2 ⟨rfl,hb2⟩;have BF:Hid (Below w1.heap.size w1 w2):=(by first | exact hb2 | exact zab (by repeat (first | exact Below.refl _ _ | refine Below.drew ?_)) hb2 (Nat.le_refl _));clear hb2))
 all_goals
  have B3:=zaa (zab B1.o BF.o B1.o.size);clear x0 x1;obtain ⟨x0,x1⟩:=SK.o _ BF.o;clear SK;go_wp2_with fail;refine (LD2.o _ (HR.o.below (by repeat (first | exact B3.o | refine Below.drew ?_)))).mono ?_;rintro e w3 ⟨rfl,hb3⟩;have B4:Hid (Below w.heap.size w w3):=zab (by repeat (first | exact B3.o | refine Below.drew ?_)) hb3 (by have:=B3.o.size;simp <;> omega);have B5:Hid (Below w1.heap.size w1 w3):=zab (by repeat (first | exact BF.o | refine Below.drew ?_)) hb3 (by have:=BF.o.size;simp <;> omega);have hx:=HX.o _ B5.o;clear hb3 x0 x1;go_wp2_with fail
  go_region_held3 (fun w'=>w'.cell? ⟨b,o+n,none⟩=some (.string x))
   (exact HX.o _ (by repeat (first | exact B5.o | refine Below.drew ?_)))
   (fail)
  all_goals
   go_wp2;go_ret3;exact ⟨rfl,(by repeat (first | exact B4.o | refine Below.drew ?_))⟩
end Go.Proofs.YtehnphoeplmpdaaGreatDoor

namespace Go.Proofs.YtehnphoeplmpdaaGreatDoor
open Go.RowKit Go.Maps
theorem yahr {ws:List Ino} {ps:List Den} {s:ByteArray} (h:(paR ws ps s).2.2=0):zay ws ps=true∧paR ws ps s=paI ws ps s:=by
 unfold paR at h ⊢
 split at h
 ·cases h
 ·rename_i c;rw[if_neg c]
  split at h
  ·rename_i c1;exact ⟨c1,if_pos c1⟩
  ·cases h
def zqw:Den:=⟨0,⟨#[]⟩,0⟩
def erN (ps:List Den) (d:Int) (nm:ByteArray):Int×Int:=match zbd ps d nm with | none=>(0,5) | some k=>((k:Int),0)
def erR (ws:List Ino) (ps:List Den) (s:ByteArray):Int×Int:=if (paR ws ps s).2.2=0 then erN ps (paR ws ps s).1 (paR ws ps s).2.1 else (0,(paR ws ps s).2.2)
def nnN (ps:List Den) (d:Int) (nm:ByteArray):Den×Int:=match zbd ps d nm with | none=>(⟨d,nm,0⟩,0) | some _=>(zqw,8)
def nnR (ws:List Ino) (ps:List Den) (s:ByteArray):Den×Int:=if (paR ws ps s).2.2=0 then nnN ps (paR ws ps s).1 (paR ws ps s).2.1 else (zqw,(paR ws ps s).2.2)
theorem yahg {ws:List Ino} {ps:List Den} (h:zay ws ps=true) (d:Int) (nm:ByteArray) :
  (zbd ps d nm=none∧Maps.has (mpD ps d ps.length) (zqf nm)=false)∨(∃ k:Nat,zbd ps d nm=some k∧Maps.has (mpD ps d ps.length) (zqf nm)=true∧(mpD ps d ps.length).atKey (zqf nm) (.lit (.int .i64 0))=.lit (.int .i64 (k:Int))):=by
 obtain ⟨A,B⟩:=yaou h d nm (.lit (.int .i64 0))
 cases e:zbd ps d nm with
 | none=>exact .inl ⟨rfl,A e⟩
 | some k=>exact .inr ⟨k,rfl,B k e⟩
theorem zny {w w':World} {b:Nat} (h:w.grownBy w' (some b)) {a:Addr} (ha:w.heap.size≤a.block) (u:Value):w.grownBy (w'.setCell a u) (some b) :=
 ⟨h.os,h.tape,h.output,by simpa[World.setCell] using h.size,fun k hk hn=>(Below.heap_setCell _ _ _ _ (by omega)).trans (h.block k hk hn)⟩
theorem Mp.set {w:World} {b:Nat} {D:DataW Unit} (h:Mp w b D) {a:Addr} (ha:b≠a.block) (u:Value):Mp (w.setCell a u) b D:=World.ownsMap.setCell h ha u
theorem zpd (v:Value) (ws:List Ino) (ps:List Den) (s:ByteArray) (b:Nat) (D:DataW Unit) (w:World) (h:RdIm w v ws ps) (hw:ws.length≤1048576) (hp:ps.length≤1048576) (hT:TS w) (hE:ED w) (hF:FD w) (hr:∀ k (h:k < ws.length),ws[k].R) (hs:∀ k (h:k < ps.length),ps[k].name.size≤maxLen) (hm:Mp w b D) :
  Calls Tryz.prog 256 #[.map (some b),v,.string s] w fun e w'=>e=.returned (.tuple #[.int .i64 (erR ws ps s).1,.int .i64 (erR ws ps s).2])∧(∃ D',Mp w' b D')∧w.grownBy w' (some b):=by
 have LP:=zaa (fun w1 (hb:Below w.heap.size w w1)=>zit v ws ps s w1 (h.below hb) hw hp (hT.below hb) (hE.below hb) (hF.below hb) hr hs);have LT:=zaa (fun d w1 (hb:Below w.heap.size w w1) (hi:zay ws ps=true)=>zlj v ws ps d b D w1 (h.below hb) hi (hm.below hb) (hF.below hb));have EL:=zaa (show erR ws ps s=if (paR ws ps s).2.2=0 then erN ps (paR ws ps s).1 (paR ws ps s).2.1 else (0,(paR ws ps s).2.2) from rfl);have OKP:=zaa (fun q=>yahr (ws:=ws) (ps:=ps) (s:=s) q);have NMP:=zaa (fun (hi:zay ws ps=true) (c:(paI ws ps s).2.2=0)=>(zic hi c).2.2);have M:=zaa hm;obtain ⟨vW,vP,rfl,h1,h2⟩:=h;obtain ⟨aW,cW,rfl,_,_⟩:=h1.shape;obtain ⟨aP,cP,rfl,_,_⟩:=h2.shape;clear h1 h2 hr hs hT hE hF hm
 have CA:Hid (∀ w',Below (w.alloc (.cells #[.slice aW ws.length cW,.slice aP ps.length cP] 79)).heap.size (w.alloc (.cells #[.slice aW ws.length cW,.slice aP ps.length cP] 79)) w'→w'.cell? ⟨w.heap.size,0,none⟩=some (.slice aW ws.length cW)∧w'.cell? ⟨w.heap.size,1,none⟩=some (.slice aP ps.length cP)):=fun w' hb=>by
  have:w'.heap[w.heap.size]?=some (.cells #[.slice aW ws.length cW,.slice aP ps.length cP] 79 (0,0)):=(hb.block _ (by simp)).trans (zah rfl);exact ⟨(zac this).1,(zac this).2.1⟩
 have BW:Hid (Below w.heap.size w (w.alloc (.cells #[.slice aW ws.length cW,.slice aP ps.length cP] 79))):=(Below.refl _ _).alloc (Nat.le_refl _) _;obtain ⟨x0,x1⟩:=CA.o _ (Below.refl _ _);generalize hpr:paR ws ps s=pr at *;have HPR:=zaa hpr;clear hpr;generalize erR ws ps s=res at *;obtain ⟨pd,pn,pc⟩:=pr;simp only at EL OKP LP;go_enter Tryz.func256,Tryz.ntmps256;go_wp2_with fail;refine (LP.o _ BW.o).mono ?_;rintro e w1 ⟨rfl,hb1⟩;have B1:=zaa (zab BW.o hb1 BW.o.size);clear x0 x1;obtain ⟨x0,x1⟩:=CA.o _ hb1;clear hb1 LP CA
 by_cases c:pc=0
 case neg =>
  rw[if_neg c] at EL;obtain rfl:=EL.o
  have q:(pc != 0)=true:=by rw[bne_iff_ne];exact c
  clear EL c OKP NMP LT x0 x1;go_wp2;go_ret2;exact ⟨rfl,⟨D,M.o.below B1.o⟩,grownB B1.o _⟩
 rw[if_pos c] at EL;subst c;obtain ⟨hi,hpp⟩:=OKP.o rfl
 have NM:Hid (nmB pn=true):=by
  have:=NMP.o hi (by rw[← hpp]);rw[← hpp] at this;exact this
 have key:Hid (keyOf Tryz.prog 9 (.string pn)=some (zqf pn)):=WideMaps.keyOf_string_mk strU (by have:=(zdc NM.o).2.1;unfold maxLen;omega);have LT2:=zaa (fun w1 hb=>LT.o pd w1 hb hi);have ML:=yahg hi pd pn;have EN:=zaa (show erN ps pd pn=match zbd ps pd pn with | none=>(0,5) | some k=>((k:Int),0) from rfl);rw[EN.o] at EL;clear OKP NMP LT hpp HPR hi EN NM;generalize mpD ps pd ps.length=D2 at *;go_wp2_with fail;refine (LT2.o _ B1.o).mono ?_;rintro e w2 ⟨rfl,hm2,hg2⟩;have M2:=zaa hm2;have G2:=zaa ((grownB B1.o (some b)).trans hg2);clear hm2 hg2 LT2 x0 x1
 rcases ML with ⟨e1,e2⟩ | ⟨k,e1,e2,e3⟩
 ·rw[e1] at EL;obtain rfl:=EL.o;have E2:=zaa e2;clear EL e1 e2;go_wp2_with (at_lookup;refine wpList_lookup_own_ok_int _ rfl _ _ 265 rfl 9 3 .i64 strK mapU intU (intZ _) b 4096 D2 rfl M2.o _ _ rfl key.o ?_);intro c hat hwc;rw[E2.o];clear hat hwc;go_wp2;go_ret2;exact ⟨rfl,⟨D2,M2.o⟩,G2.o⟩
 ·rw[e1] at EL;obtain rfl:=EL.o;have E2:=zaa e2;have E3:=zaa e3;clear EL e1 e2 e3;go_wp2_with (at_lookup;refine wpList_lookup_own_ok_int _ rfl _ _ 265 rfl 9 3 .i64 strK mapU intU (intZ _) b 4096 D2 rfl M2.o _ _ rfl key.o ?_);intro c hat hwc;rw[E2.o]
  have ck:c=(k:Int):=by
   rw[E3.o] at hat;injection hat with hat;injection hat with _ hat;exact hat.symm
  subst ck;clear hat hwc E3;go_wp2;go_ret2;exact ⟨rfl,⟨D2,M2.o⟩,G2.o⟩
theorem zjn (v:Value) (ws:List Ino) (ps:List Den) (s:ByteArray) (b:Nat) (D:DataW Unit) (w:World) (h:RdIm w v ws ps) (hw:ws.length≤1048576) (hp:ps.length≤1048576) (hT:TS w) (hE:ED w) (hF:FD w) (hr:∀ k (h:k < ws.length),ws[k].R) (hs:∀ k (h:k < ps.length),ps[k].name.size≤maxLen) (hm:Mp w b D) :
  Calls Tryz.prog 251 #[.map (some b),v,.string s] w fun e w'=>e=.returned (.tuple #[.agg #[.int .i64 (nnR ws ps s).1.dir,.string (nnR ws ps s).1.name,.int .i64 (nnR ws ps s).1.child],.int .i64 (nnR ws ps s).2])∧(∃ D',Mp w' b D')∧w.grownBy w' (some b):=by
 have LP:=zaa (fun w1 (hb:Below w.heap.size w w1)=>zit v ws ps s w1 (h.below hb) hw hp (hT.below hb) (hE.below hb) (hF.below hb) hr hs);have LT:=zaa (fun d w1 (hb:Below w.heap.size w w1) (hi:zay ws ps=true)=>zlj v ws ps d b D w1 (h.below hb) hi (hm.below hb) (hF.below hb));have EL:=zaa (show nnR ws ps s=if (paR ws ps s).2.2=0 then nnN ps (paR ws ps s).1 (paR ws ps s).2.1 else (zqw,(paR ws ps s).2.2) from rfl);have OKP:=zaa (fun q=>yahr (ws:=ws) (ps:=ps) (s:=s) q);have NMP:=zaa (fun (hi:zay ws ps=true) (c:(paI ws ps s).2.2=0)=>(zic hi c).2.2);have M:=zaa hm;have bl:=hm.lt;obtain ⟨vW,vP,rfl,h1,h2⟩:=h;obtain ⟨aW,cW,rfl,_,_⟩:=h1.shape;obtain ⟨aP,cP,rfl,_,_⟩:=h2.shape;clear h1 h2 hr hs hT hE hF hm
 obtain ⟨W,hW⟩:∃ W,W=(w.alloc (.cells #[.slice aW ws.length cW,.slice aP ps.length cP] 79)).alloc (.cells #[.int .i64 0,.string ⟨#[]⟩,.int .i64 0] 185):=⟨_,rfl⟩
 have CA:Hid (∀ w',Below W.heap.size W w'→w'.cell? ⟨w.heap.size,0,none⟩=some (.slice aW ws.length cW)∧w'.cell? ⟨w.heap.size,1,none⟩=some (.slice aP ps.length cP)):=fun w' hb=>by
  have:w'.heap[w.heap.size]?=some (.cells #[.slice aW ws.length cW,.slice aP ps.length cP] 79 (0,0)):=(hb.block _ (by rw[hW];simp;omega)).trans (by rw[hW];exact zat (zah rfl));exact ⟨(zac this).1,(zac this).2.1⟩
 have CB:Hid (W.heap[w.heap.size+1]?=some (.cells #[.int .i64 0,.string ⟨#[]⟩,.int .i64 0] 185 (0,0))):=by
  unfold Hid;rw[hW];exact zah (by simp)
 have BW:Hid (Below w.heap.size w W):=by rw[hW];exact ((Below.refl _ _).alloc (Nat.le_refl _) _).alloc (by simp) _
 have hWz:W.heap.size=w.heap.size+2:=by rw[hW];simp
 have hWz2:w.heap.size+1 < W.heap.size:=by omega
 obtain ⟨x0,x1⟩:=CA.o _ (Below.refl _ _);generalize hpr:paR ws ps s=pr at *;have HPR:=zaa hpr;clear hpr hWz;generalize nnR ws ps s=res at *;obtain ⟨pd,pn,pc⟩:=pr;simp only at EL OKP LP;go_enter Tryz.func251,Tryz.ntmps251;go_wp2_with fail;rw[← hW];clear hW;refine (LP.o _ BW.o).mono ?_;rintro e w1 ⟨rfl,hb1⟩;have B1:=zaa (zab BW.o hb1 BW.o.size);have V1:Hid (w1.heap[w.heap.size+1]?=some (.cells #[.int .i64 0,.string ⟨#[]⟩,.int .i64 0] 185 (0,0))):=(hb1.block _ hWz2).trans CB.o;clear x0 x1;obtain ⟨x0,x1⟩:=CA.o _ hb1;clear hb1 LP CA CB
 by_cases c:pc=0
 case neg =>
  rw[if_neg c] at EL;obtain rfl:=EL.o
  have q:(pc != 0)=true:=by rw[bne_iff_ne];exact c
  clear EL c OKP NMP LT x0 x1;obtain ⟨t0,t1,t2⟩:=zaz V1.o;have u0:=(zae (xs:=[.int .i64 0,.string ⟨#[]⟩,.int .i64 0]) V1.o 0).2;have u1:=(zae (xs:=[.int .i64 0,.string ⟨#[]⟩,.int .i64 0]) V1.o 1).2;have u2:=(zae (xs:=[.int .i64 0,.string ⟨#[]⟩,.int .i64 0]) V1.o 2).2;go_wp2;refine bodyPost_ret (v:=.tuple #[.agg #[.int .i64 0,.string ⟨#[]⟩,.int .i64 0],.int .i64 pc]) (by simp[results,Tryz.results251,go_sem,t0,t1,t2]) rfl ⟨rfl,⟨D,?_⟩,?_⟩
  ·repeat (first | exact M.o.below B1.o | refine Mp.set ?_ (by simp only;omega) _)
  ·repeat (first | exact grownB B1.o _ | refine zny ?_ (by simp only;omega) _)
 rw[if_pos c] at EL;subst c;obtain ⟨hi,hpp⟩:=OKP.o rfl
 have NM:Hid (nmB pn=true):=by
  have:=NMP.o hi (by rw[← hpp]);rw[← hpp] at this;exact this
 have key:Hid (keyOf Tryz.prog 9 (.string pn)=some (zqf pn)):=WideMaps.keyOf_string_mk strU (by have:=(zdc NM.o).2.1;unfold maxLen;omega);have LT2:=zaa (fun w1 hb=>LT.o pd w1 hb hi);have ML:=yahg hi pd pn;have EN:=zaa (show nnN ps pd pn=match zbd ps pd pn with | none=>(⟨pd,pn,0⟩,0) | some _=>(zqw,8) from rfl);rw[EN.o] at EL;clear OKP NMP LT hpp HPR hi EN NM;generalize mpD ps pd ps.length=D2 at *;go_wp2_with fail;refine (LT2.o _ B1.o).mono ?_;rintro e w2 ⟨rfl,hm2,hg2⟩;have M2:=zaa hm2;have G2:=zaa ((grownB B1.o (some b)).trans hg2);have V2:Hid (w2.heap[w.heap.size+1]?=some (.cells #[.int .i64 0,.string ⟨#[]⟩,.int .i64 0] 185 (0,0))):=(hg2.block _ ((Array.getElem?_eq_some_iff.1 V1.o).1) (by intro e;injection e with e;omega)).trans V1.o;obtain ⟨t0,t1,t2⟩:=zaz V2.o;have u0:=(zae (xs:=[.int .i64 0,.string ⟨#[]⟩,.int .i64 0]) V2.o 0).2;have u1:=(zae (xs:=[.int .i64 0,.string ⟨#[]⟩,.int .i64 0]) V2.o 1).2;have u2:=(zae (xs:=[.int .i64 0,.string ⟨#[]⟩,.int .i64 0]) V2.o 2).2;clear hm2 hg2 LT2 x0 x1
 rcases ML with ⟨e1,e2⟩ | ⟨k,e1,e2,e3⟩
 ·rw[e1] at EL;obtain rfl:=EL.o;have E2:=zaa e2;clear EL e1 e2;go_wp2_with (at_lookup;refine wpList_lookup_own_ok_int _ rfl _ _ 265 rfl 9 3 .i64 strK mapU intU (intZ _) b 4096 D2 rfl M2.o _ _ rfl key.o ?_);intro c hat hwc;rw[E2.o];clear hat hwc;go_wp2;refine bodyPost_ret (v:=.tuple #[.agg #[.int .i64 pd,.string pn,.int .i64 0],.int .i64 0]) (by simp[results,Tryz.results251,go_sem,t0,t1,t2]) rfl ⟨rfl,⟨D2,?_⟩,?_⟩
  ·repeat (first | exact M2.o | refine Mp.set ?_ (by simp only;omega) _)
  ·repeat (first | exact G2.o | refine zny ?_ (by simp only;omega) _)
 ·rw[e1] at EL;obtain rfl:=EL.o;have E2:=zaa e2;have E3:=zaa e3;clear EL e1 e2 e3;go_wp2_with (at_lookup;refine wpList_lookup_own_ok_int _ rfl _ _ 265 rfl 9 3 .i64 strK mapU intU (intZ _) b 4096 D2 rfl M2.o _ _ rfl key.o ?_);intro c hat hwc;rw[E2.o];clear hat hwc E3;go_wp2;refine bodyPost_ret (v:=.tuple #[.agg #[.int .i64 0,.string ⟨#[]⟩,.int .i64 0],.int .i64 8]) (by simp[results,Tryz.results251,go_sem,t0,t1,t2]) rfl ⟨rfl,⟨D2,?_⟩,?_⟩
  ·repeat (first | exact M2.o | refine Mp.set ?_ (by simp only;omega) _)
  ·repeat (first | exact G2.o | refine zny ?_ (by simp only;omega) _)
end Go.Proofs.YtehnphoeplmpdaaGreatDoor
