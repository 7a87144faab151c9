/- No name twice; kinds that fit: by the program. -/
import Derived.Test.YtbohndgbfbfldaaGreatDoorImX
import Derived.Test.YtbohndgbfbfldaaGreatDoorZAK
import Derived.Laws.Cover3
set_option maxRecDepth 100000
set_option maxHeartbeats 4000000
namespace Go.Proofs.YtbohndgbfbfldaaGreatDoor
open Go.RowKit
@[go_sem] theorem yadr (a:Option Addr) (l c:Nat) (w:World):(binOp .eql 38 (.slice a l c) (.slice none 0 0)).run Tryz.prog w=.ok (.bool a.isNone) w:=by
 simp only[binOp];simp[run_equal_slice_nil w 38 143 a l c Tryz.underlying38]
theorem zgj (v:Value) (ps:List Den) (w:World) (h:RdD w v ps) (hn:ps.length≤4096) :
  Calls Tryz.prog 158 #[v] w fun e w'=>∃ v',e=.returned v'∧Row w' 143 3 w.heap.size w'.heap.size v' ps.length (zbm ps)∧Below w.heap.size w w':=by
 have HR:=zaa h;obtain ⟨ao,cap,rfl,_,hc⟩:=h.shape;clear h
 cases ao with
 | none =>
  have hl:ps.length=0:=by
   rcases Nat.eq_zero_or_pos ps.length with e | e
   ·exact e
   ·obtain ⟨b,o,e1,_⟩:=hc e
    cases e1
  have hps:ps=[]:=List.eq_nil_of_length_eq_zero hl;subst hps;clear hc hl;go_enter Tryz.func158,Tryz.ntmps158;go_wp2;go_ret;exact ⟨_,rfl,Row.nil _ _ _ _ _,Below.refl _ _⟩
 | some a =>
  have BB:=zaa ((Below.refl w.heap.size w).alloc (Nat.le_refl _) (.cells #[] 143));have OB:=zaa (World.ownsRow_lit (e:=143) (size:=3) w #[] 0 (Nat.le_refl _) (by simp[maxLen]) (by simp));have RB:Hid (Rd (w.alloc (.cells #[] 143)) 3 (.slice (some a) ps.length cap) ps.length (zbm ps)):=Rd.below HR.o BB.o;have hz:w.heap.size≤(w.alloc (.cells #[] 143)).heap.size:=BB.o.size;clear hc;go_enter Tryz.func158,Tryz.ntmps158;go_wp2_with (at_builtin;refine zaq _ rfl (.tmp 5) (.tmp 6) 38 rfl w.heap.size 143 (.agg #[.int .i64 0,.string ⟨#[]⟩,.int .i64 0]) 3 32 Tryz.underlying38 zla rfl (by decide) _ 0 [] rfl OB.o _ ps.length (zbm ps) rfl RB.o (ziu _) (by simp[maxLen];omega) (by omega) hz ?_);intro vN wN hownN hgrN;have ON:=zaa hownN;have BN:=zaa (BB.o.grown hgrN hz (fun q hq=>(OB.o.lt q hq).1));clear hownN hgrN;obtain ⟨-,aL,cL,hvL,-⟩:=(zai ON.o).rd;subst hvL;go_wp2;go_ret;exact ⟨_,rfl,zai ON.o,BN.o⟩
def zdk (ds:List Den) (k:Nat):List Den:=(ds.take k).map zei ++ ds.drop k
theorem zjv (ds:List Den) (k:Nat):(zdk ds k).length=ds.length:=by
 unfold zdk;rw[List.length_append,List.length_map,List.length_take,List.length_drop];omega
theorem zqd (ds:List Den):zdk ds 0=ds:=by simp[zdk]
theorem zsn (ds:List Den):zdk ds ds.length=ds.map zei:=by simp[zdk]
theorem zpy {ds:List Den} {k:Nat} (h:k < ds.length):(zbm (zdk ds k)).set (k*3+2) (.int .i64 (-1))=zbm (zdk ds (k+1)):=by
 have e1:ds.drop k=ds[k] :: ds.drop (k+1):=List.drop_eq_getElem_cons h
 have l1:(zbm ((ds.take k).map zei)).length=k*3:=by rw[zee,List.length_map,List.length_take];congr 1;omega
 unfold zdk;rw[e1,List.take_succ_eq_append_getElem h,List.map_append,zfi,zfi,zfi,List.set_append_right _ _ (by omega),l1,List.append_assoc]
 congr 1
 rw[show k*3+2 - k*3=2 by omega];rfl
theorem zvp (ps:List Den) (k:Nat) (h:k < ps.length):(zbm ps)[k*3+2]?=some (.int .i64 ps[k].child):=zam _ 3 Den.cells_len ps k 2 h (by omega)
theorem zkk (v:Value) (ds:List Den) (w:World) (h:RdD w v ds) (hn:ds.length≤4096) :
  Calls Tryz.prog 146 #[v] w fun e w'=>e=.returned (.bool (zic (ds.map zei)))∧Below w.heap.size w w':=by
 have HR:=zaa h;obtain ⟨ao,cap,rfl,_,_⟩:=h.shape;clear h;go_enter Tryz.func146,Tryz.ntmps146;go_wp2_with fail;refine (zgj _ ds _ HR.o hn).mono ?_;rintro e w1 ⟨vN,rfl,hr1,hb1⟩;obtain ⟨-,aN,cN,hvN,-⟩:=hr1.rd;subst hvN;have R1:=zaa hr1;have B1:=zaa hb1;have hz1:w.heap.size≤w1.heap.size:=hb1.size;clear hr1 hb1;go_wp2
 go_loopw [4,9] (fun _ i wr=>∃ k:Nat,k≤ds.length∧i=.int .i64 k∧Hid (Row wr 143 3 w.heap.size w1.heap.size (.slice aN ds.length cN) ds.length (zbm (zdk ds k))∧Below w.heap.size w wr)) (fun _ i _=>ds.length - (intOf i).toNat)
 case atStart=>exact ⟨0,by omega,rfl,by rw[zqd];exact R1.o,B1.o⟩
 case round =>
  obtain ⟨k,hk,rfl,H⟩:=hrel
  by_cases hlt:k < ds.length
  ·rcases Row.shape H.o.1 with ⟨_,e,_⟩ | ⟨b,cap',e,_,_⟩
   ·exact absurd e (by omega)
   obtain ⟨rfl,rfl⟩:aN=some ⟨b,0,none⟩∧cN=cap':=by cases e;exact ⟨rfl,rfl⟩
   obtain ⟨_,l1,l2,l3,fr,ce⟩:=Row.at H.o.1;have f0:=fr (k*3+2);have c0:=(ce (k*3+2) (by omega)).trans (zvp (zdk ds k) k (by rw[zjv];exact hlt))
   have k0:(0:Int)≤(k:Int):=by omega
   have k1:(k:Int) < (ds.length:Int):=by omega
   have G:Hid (Row (wr.setCell ⟨b,k*3+2,none⟩ (.int .i64 (-1))) 143 3 w.heap.size w1.heap.size (.slice (some ⟨b,0,none⟩) ds.length cN) ds.length (zbm (zdk ds (k+1)))∧Below w.heap.size w (wr.setCell ⟨b,k*3+2,none⟩ (.int .i64 (-1)))):=by
    refine ⟨?_,H.o.2.setCell l1 _⟩;rw[← zpy hlt];exact Row.stored H.o.1 _ _
   clear H fr ce R1 e;generalize ((zdk ds k)[k]'(by rw[zjv];exact hlt)).child=z at c0;go_wp2
   go_roundw
   case rel=>exact ⟨k+1,by omega,by go_num,G⟩
   case measure=>simp[intOf];omega
  ·obtain rfl:k=ds.length:=by omega
   have LA:=zaa (zsn ds);rw[LA.o] at H
   have R2:Hid (RdD wr (.slice aN ds.length cN) (ds.map zei)):=by
    unfold Hid RdD;rw[List.length_map];exact H.o.1.rd
   have B2:=zaa H.o.2
   have hl:(ds.map zei).length≤1048576:=by rw[List.length_map];omega
   have HL:=zaa hl;clear H hl;go_wp2_with fail;refine (zgy _ (ds.map zei) _ R2.o HL.o).mono ?_;rintro e w2 ⟨rfl,hb2⟩;have B3:=zaa (zab B2.o hb2 B2.o.size);clear hb2;go_wp2;go_ret;exact ⟨rfl,B3.o⟩
theorem zyl {ws:List Ino} {ts:List Den} (h:∀ k (h:k < ts.length),zwt ws ts[k]=true):zjf ws ts=true:=decide_eq_true h
theorem zvv {ws:List Ino} {ts:List Den} {k:Nat} (hk:k < ts.length) (h:zwt ws ts[k]=false):zjf ws ts=false:=decide_eq_false (fun x=>by have:=x k hk;rw[h] at this;cases this)
theorem zmp (vW v:Value) (ws:List Ino) (ts:List Den) (w:World) (hw:RdN w vW ws) (h:RdD w v ts) (hl:ws.length=16) (hn:ts.length≤4096) (hT:∀ k (h:k < ts.length),(0≤ts[k].child∧ts[k].child≤15)∧(0≤ts[k].dir∧ts[k].dir≤15)) :
  Calls Tryz.prog 145 #[vW,v] w fun e w'=>e=.returned (.bool (zjf ws ts))∧Below w.heap.size w w':=by
 obtain ⟨aW,cW,rfl,_,hcW⟩:=hw.shape;obtain ⟨aP,cP,rfl,_,hcP⟩:=h.shape;have HW:=zaa hcW;have HP:=zaa hcP;have HT:=zaa hT;have HL:=zaa hl
 have hl':(16:Int)≤(ws.length:Int):=by omega
 clear h hw hcW hcP hT hl;go_enter Tryz.func145,Tryz.ntmps145;go_wp2
 go_loopw [6,9] (fun _ i wr=>∃ k:Nat,k≤ts.length∧i=.int .i64 k∧Hid (Below w.heap.size w wr∧∀ j (h:j < ts.length),j < k→zwt ws ts[j]=true)) (fun _ i _=>ts.length - (intOf i).toNat)
 case atStart=>exact ⟨0,by omega,rfl,Below.refl _ _,fun j h a=>absurd a (by omega)⟩
 case round =>
  obtain ⟨k,hk,rfl,H⟩:=hrel;have H1:=zaa H.o.1;have hz:w.heap.size≤wr.heap.size:=H.o.1.size
  by_cases hlt:k < ts.length
  ·obtain ⟨b,o,rfl,hbl,hcell⟩:=HP.o (by omega);obtain ⟨bW,oW,rfl,hblW,hcellW⟩:=HW.o (by have:=HL.o;omega);obtain ⟨a0,a1,a2⟩:=hcell k hlt;have d0:=(H1.o.cell (p:=⟨b,o+k*3,none⟩) hbl).trans a0;have d1:=(H1.o.cell (p:=⟨b,o+k*3+1,none⟩) hbl).trans a1;have d2:=(H1.o.cell (p:=⟨b,o+k*3+2,none⟩) hbl).trans a2
   have k0:(0:Int)≤(k:Int):=by omega
   have k1:(k:Int) < (ts.length:Int):=by omega
   obtain ⟨⟨c1,c2⟩,c3,c4⟩:=HT.o k hlt
   have H2:Hid (zwt ws ts[k]=true→∀ j (h:j < ts.length),j < k+1→zwt ws ts[j]=true):=fun q j h a=>by
    by_cases e:j=k
    ·subst e;exact q
    ·exact H.o.2 j h (by omega)
   have H3:=zaa (fun q=>zvv (ws:=ws) hlt q);clear a0 a1 a2 hcell H;generalize ts[k]=x at *;obtain ⟨xd,xs,xc⟩:=x;simp only at d0 d1 d2 c1 c2 c3 c4
   obtain ⟨d,rfl⟩:∃ d:Nat,xd=(d:Int):=⟨xd.toNat,by omega⟩
   obtain ⟨c,rfl⟩:∃ c:Nat,xc=(c:Int):=⟨xc.toNat,by omega⟩
   have hd:d < ws.length:=by omega
   have hc:c < ws.length:=by omega
   have B2:=zaa (H1.o.alloc hz (.cells #[.int .i64 (d:Int),.string xs,.int .i64 (c:Int)] 143));have g0:=(B2.o.cell (p:=⟨bW,oW+d*11,none⟩) hblW).trans (hcellW d hd).1;have g1:=(B2.o.cell (p:=⟨bW,oW+c*11,none⟩) hblW).trans (hcellW c hc).1;have FB:=zaa (show zwt ws ⟨(d:Int),xs,(c:Int)⟩=(ws[d].kind == 2 && !(ws[c].kind == 0)) by unfold zwt;rw[zdy hd,zdy hc])
   have d5:(d:Int) < (ws.length:Int):=by omega
   have c5:(c:Int) < (ws.length:Int):=by omega
   clear hcellW;generalize ws[d].kind=kd at g0 FB;generalize ws[c].kind=kc at g1 FB
   by_cases q:kd=2
   ·have q1:(kd != 2)=false:=by rw[q];rfl
    by_cases r:kc=0
    ·have r1:(kc == 0)=true:=by rw[r];rfl
     have E:=zaa (H3.o (by rw[FB.o,r1];simp));clear q r H2 H3 FB;go_wp2;go_ret;exact ⟨zad E.o.symm,B2.o⟩
    ·have r1:(kc == 0)=false:=by rw[beq_eq_false_iff_ne];exact r
     have E:=zaa (H2.o (by rw[FB.o,r1,q];rfl));clear q r H2 H3 FB;go_wp2
     go_roundw
     case rel=>exact ⟨k+1,by omega,by go_num,B2.o,E.o⟩
     case measure=>simp[intOf];omega
   ·have q1:(kd != 2)=true:=by rw[bne_iff_ne];exact q
    have E:=zaa (H3.o (by rw[FB.o,show (kd == 2)=false by rw[beq_eq_false_iff_ne];exact q];rfl));clear q H2 H3 FB;go_wp2;go_ret;exact ⟨zad E.o.symm,B2.o⟩
  ·have E:=zaa (zyl (ws:=ws) (fun j h=>H.o.2 j h (by omega)));clear H;go_wp2;go_ret;exact ⟨zad E.o.symm,H1.o⟩
end Go.Proofs.YtbohndgbfbfldaaGreatDoor
