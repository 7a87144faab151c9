/- Several texts laid together: DtI, IgM, OpM, PlP. -/
import Derived.Test.YtehnphoeplmpdaaGreatDoorDtH
import Derived.Test.YtehnphoeplmpdaaGreatDoorZBN
import Derived.Test.YtehnphoeplmpdaaGreatDoorZBO
import Derived.KernelRfl
import Derived.Test.YtehnphoeplmpdaaGreatDoorPlN
import Derived.Test.YtehnphoeplmpdaaGreatDoorZBA
set_option maxRecDepth 100000
set_option maxHeartbeats 16000000
namespace Go.Proofs.YtehnphoeplmpdaaGreatDoor
open Go.RowKit
def uoI (ns:List Ino) (ds:List Den) (k:Int) (p t:ByteArray) (g:Int):List Se×Int:=if k=1 then mkI ns ds p 1 else if k=2 then mkI ns ds p 2 else if k=3 then rmI ns ds p else if k=4 then lnI ns ds p t else if k=5 then rnI ns ds p t else cuI ns ds p g
theorem zqt (v:Value) (ns:List Ino) (ds:List Den) (k:Int) (p t:ByteArray) (g y:Int) (w:World) (h:RdIm w v ns ds) (hi:zay ns ds=true) (hp:p.size≤65536) (ht:t.size≤65536) :
  Calls Tryz.prog 83 #[v,.agg #[.int .i64 k,.string p,.string t,.int .i64 g,.int .i64 y]] w fun e w'=>zfa w w' e (uoI ns ds k p t g):=by
 have L1:=zaa (fun w1 (hb:Below w.heap.size w w1)=>zor v ns ds p 1 w1 (h.below hb) hi hp);have L2:=zaa (fun w1 (hb:Below w.heap.size w w1)=>zor v ns ds p 2 w1 (h.below hb) hi hp);have L3:=zaa (fun w1 (hb:Below w.heap.size w w1)=>zsk v ns ds p w1 (h.below hb) hi hp);have L4:=zaa (fun w1 (hb:Below w.heap.size w w1)=>zyb v ns ds p t w1 (h.below hb) hi ⟨hp,ht⟩);have L5:=zaa (fun w1 (hb:Below w.heap.size w w1)=>zsw v ns ds p t w1 (h.below hb) hi ⟨hp,ht⟩);have L6:=zaa (fun w1 (hb:Below w.heap.size w w1)=>yadg v ns ds p g w1 (h.below hb) hi hp);have EL:=zaa (show uoI ns ds k p t g=if k=1 then mkI ns ds p 1 else if k=2 then mkI ns ds p 2 else if k=3 then rmI ns ds p else if k=4 then lnI ns ds p t else if k=5 then rnI ns ds p t else cuI ns ds p g from rfl);obtain ⟨vW,vP,rfl,h1,h2⟩:=h;obtain ⟨aW,cW,rfl,_,_⟩:=h1.shape;obtain ⟨aP,cP,rfl,_,_⟩:=h2.shape;clear h1 h2 hi hp ht
 obtain ⟨W,hW⟩:∃ W,W=(w.alloc (.cells #[.slice aW ns.length cW,.slice aP ds.length cP] 79)).alloc (.cells #[.int .i64 k,.string p,.string t,.int .i64 g,.int .i64 y] 50):=⟨_,rfl⟩
 have BW:Hid (Below w.heap.size w W):=by rw[hW];exact ((Below.refl _ _).alloc (Nat.le_refl _) _).alloc (by simp) _
 rw[EL.o]
 by_cases c1:k=1
 case pos =>
  rw[if_pos c1];have LL:=L1;clear EL L1 L2 L3 L4 L5 L6;subst c1;generalize mkI ns ds p 1=res at *;go_enter Tryz.func83,Tryz.ntmps83;go_wp2_with fail;rw[← hW];clear hW;refine (LL.o _ BW.o).mono ?_;rintro e w1 ⟨v1,rfl,hr1,hb1⟩;have R1:=zaa (hr1.wide BW.o.size (Nat.le_refl _));have B1:=zaa (zab BW.o hb1 BW.o.size);obtain ⟨-,aL,cL,hvL,-⟩:=hr1.rd;subst hvL;clear hr1 hb1;go_wp2;go_ret2;exact ⟨_,rfl,R1.o,B1.o⟩
 have q1:(k == 1)=false:=by rw[beq_eq_false_iff_ne];exact c1
 by_cases c2:k=2
 case pos =>
  rw[if_neg c1,if_pos c2];have LL:=L2;clear EL L1 L2 L3 L4 L5 L6;subst c2;generalize mkI ns ds p 2=res at *;go_enter Tryz.func83,Tryz.ntmps83;go_wp2_with fail;rw[← hW];clear hW;refine (LL.o _ BW.o).mono ?_;rintro e w1 ⟨v1,rfl,hr1,hb1⟩;have R1:=zaa (hr1.wide BW.o.size (Nat.le_refl _));have B1:=zaa (zab BW.o hb1 BW.o.size);obtain ⟨-,aL,cL,hvL,-⟩:=hr1.rd;subst hvL;clear hr1 hb1;go_wp2;go_ret2;exact ⟨_,rfl,R1.o,B1.o⟩
 have q2:(k == 2)=false:=by rw[beq_eq_false_iff_ne];exact c2
 by_cases c3:k=3
 case pos =>
  rw[if_neg c1,if_neg c2,if_pos c3];have LL:=L3;clear EL L1 L2 L3 L4 L5 L6;subst c3;generalize rmI ns ds p=res at *;go_enter Tryz.func83,Tryz.ntmps83;go_wp2_with fail;rw[← hW];clear hW;refine (LL.o _ BW.o).mono ?_;rintro e w1 ⟨v1,rfl,hr1,hb1⟩;have R1:=zaa (hr1.wide BW.o.size (Nat.le_refl _));have B1:=zaa (zab BW.o hb1 BW.o.size);obtain ⟨-,aL,cL,hvL,-⟩:=hr1.rd;subst hvL;clear hr1 hb1;go_wp2;go_ret2;exact ⟨_,rfl,R1.o,B1.o⟩
 have q3:(k == 3)=false:=by rw[beq_eq_false_iff_ne];exact c3
 by_cases c4:k=4
 case pos =>
  rw[if_neg c1,if_neg c2,if_neg c3,if_pos c4];have LL:=L4;clear EL L1 L2 L3 L4 L5 L6;subst c4;generalize lnI ns ds p t=res at *;go_enter Tryz.func83,Tryz.ntmps83;go_wp2_with fail;rw[← hW];clear hW;refine (LL.o _ BW.o).mono ?_;rintro e w1 ⟨v1,rfl,hr1,hb1⟩;have R1:=zaa (hr1.wide BW.o.size (Nat.le_refl _));have B1:=zaa (zab BW.o hb1 BW.o.size);obtain ⟨-,aL,cL,hvL,-⟩:=hr1.rd;subst hvL;clear hr1 hb1;go_wp2;go_ret2;exact ⟨_,rfl,R1.o,B1.o⟩
 have q4:(k == 4)=false:=by rw[beq_eq_false_iff_ne];exact c4
 by_cases c5:k=5
 case pos =>
  rw[if_neg c1,if_neg c2,if_neg c3,if_neg c4,if_pos c5];have LL:=L5;clear EL L1 L2 L3 L4 L5 L6;subst c5;generalize rnI ns ds p t=res at *;go_enter Tryz.func83,Tryz.ntmps83;go_wp2_with fail;rw[← hW];clear hW;refine (LL.o _ BW.o).mono ?_;rintro e w1 ⟨v1,rfl,hr1,hb1⟩;have R1:=zaa (hr1.wide BW.o.size (Nat.le_refl _));have B1:=zaa (zab BW.o hb1 BW.o.size);obtain ⟨-,aL,cL,hvL,-⟩:=hr1.rd;subst hvL;clear hr1 hb1;go_wp2;go_ret2;exact ⟨_,rfl,R1.o,B1.o⟩
 have q5:(k == 5)=false:=by rw[beq_eq_false_iff_ne];exact c5
 rw[if_neg c1,if_neg c2,if_neg c3,if_neg c4,if_neg c5];have LL:=L6;clear EL L1 L2 L3 L4 L5 L6;generalize cuI ns ds p g=res at *;go_enter Tryz.func83,Tryz.ntmps83;go_wp2_with fail;rw[← hW];clear hW;refine (LL.o _ BW.o).mono ?_;rintro e w1 ⟨v1,rfl,hr1,hb1⟩;have R1:=zaa (hr1.wide BW.o.size (Nat.le_refl _));have B1:=zaa (zab BW.o hb1 BW.o.size);obtain ⟨-,aL,cL,hvL,-⟩:=hr1.rd;subst hvL;clear hr1 hb1;go_wp2;go_ret2;exact ⟨_,rfl,R1.o,B1.o⟩
theorem zsh {i:Nat} (hi:i < 16) {f:Int} (hf:0≤f∧f < 11) (x:Int):UpIn [⟨48+12*(i:Int)+f,x⟩]:=fun u hu=>by
 rw[List.mem_singleton.1 hu];exact ⟨by show 48≤48+12*(i:Int)+f;omega,by show 48+12*(i:Int)+f < 312;omega⟩
theorem yamp {ws:List Ino} {ps:List Den} {s:ByteArray} {kind:Int} {us:List Se} (h:Img ws ps) (e:mkI ws ps s kind=(us,0)):UpIn us∧us.length≤16:=by
 unfold mkI at e
 by_cases c:(paI ws ps s).2.2=0
 ·rw[if_pos c] at e;unfold mkN at e
  split at e
  ·simp at e
  ·split at e
   ·simp at e
   ·rename_i f1
    split at e
    ·simp at e
    ·rename_i f2;obtain ⟨rfl,-⟩:=Prod.mk.inj e;obtain ⟨i,ei,hi,-⟩:=yafx h f1;obtain ⟨k,ek,hk,-⟩:=yafu h f2;rw[ei,ek];unfold mkU;refine ⟨UpIn.app (fun u hu=>?_) (zve hk _),by simp[enL]⟩
     rcases List.mem_cons.1 hu with rfl | hu
     ·exact ⟨by show 48≤48+12*(i:Int);omega,by show 48+12*(i:Int) < 312;omega⟩
     ·exact zsh hi (by omega) 1 u hu
 ·rw[if_neg c] at e;exact absurd (Prod.mk.inj e).2 c
theorem yark {i:Nat} (hi:i < 16) (x:Ino) {k:Nat} (hk:k≤8):UpIn (wrL (i:Int) x k):=by
 unfold wrL;refine UpIn.app (fun u hu=>?_) (fun u hu=>?_)
 ·simp only[List.mem_cons,List.not_mem_nil,or_false] at hu
  rcases hu with rfl | rfl | rfl
  ·exact ⟨by show 48≤48+12*(i:Int);omega,by show 48+12*(i:Int) < 312;omega⟩
  ·exact ⟨by show 48≤48+12*(i:Int)+1;omega,by show 48+12*(i:Int)+1 < 312;omega⟩
  ·exact ⟨by show 48≤48+12*(i:Int)+2;omega,by show 48+12*(i:Int)+2 < 312;omega⟩
 ·obtain ⟨j,hj,rfl⟩:=List.mem_map.1 hu;have:=List.mem_range.1 hj;exact ⟨by show 48≤48+12*(i:Int)+(3+(j:Int));omega,by show 48+12*(i:Int)+(3+(j:Int)) < 312;omega⟩
theorem yarx {ws:List Ino} {ps:List Den} {s:ByteArray} {us:List Se} (h:Img ws ps) (e:rmI ws ps s=(us,0)):UpIn us∧us.length≤16:=by
 unfold rmI at e
 by_cases c:(paI ws ps s).2.2=0
 ·rw[if_pos c] at e;unfold rmN at e
  cases q:zbd ps (paI ws ps s).1 (paI ws ps s).2.1 with
  | none=>rw[q] at e;simp at e
  | some k =>
   rw[q] at e;simp only at e;obtain ⟨hk,i,ei,_,hi,-⟩:=zrj h q;unfold rmC at e
   split at e
   ·simp at e
   ·obtain ⟨rfl,-⟩:=Prod.mk.inj e;rw[ei];unfold rmU
    split
    ·exact ⟨UpIn.app (zve hk _) (zsh hi (by omega) _),by simp[enL]⟩
    ·exact ⟨UpIn.app (zve hk _) (yark hi _ (Nat.le_refl _)),by rw[List.length_append,ztd];simp[enL]⟩
 ·rw[if_neg c] at e;exact absurd (Prod.mk.inj e).2 c
theorem yasm {ws:List Ino} {ps:List Den} {s t:ByteArray} {us:List Se} (h:Img ws ps) (e:lnI ws ps s t=(us,0)):UpIn us∧us.length≤16:=by
 unfold lnI at e
 by_cases c0:(lkI ws ps s).2=0
 ·rw[if_pos c0] at e
  split at e
  ·simp at e
  ·rename_i kk;obtain ⟨i,ei,hi,_,_⟩:=zne h c0 kk;unfold lnP at e
   by_cases c:(paI ws ps t).2.2=0
   ·rw[if_pos c] at e;unfold lnN at e
    split at e
    ·simp at e
    ·split at e
     ·simp at e
     ·rename_i f2;obtain ⟨rfl,-⟩:=Prod.mk.inj e;obtain ⟨k,ek,hk,-⟩:=yafu h f2;rw[ei,ek];exact ⟨UpIn.app (zve hk _) (zsh hi (by omega) _),by simp[enL]⟩
   ·rw[if_neg c] at e;exact absurd (Prod.mk.inj e).2 c
 ·rw[if_neg c0] at e;exact absurd (Prod.mk.inj e).2 c0
theorem yase {ws:List Ino} {ps:List Den} {s t:ByteArray} {us:List Se} (h:Img ws ps) (e:rnI ws ps s t=(us,0)):UpIn us∧us.length≤16:=by
 unfold rnI at e
 by_cases c:(paI ws ps s).2.2=0
 ·rw[if_pos c] at e;unfold rnE at e
  cases q:zbd ps (paI ws ps s).1 (paI ws ps s).2.1 with
  | none=>rw[q] at e;simp at e
  | some k =>
   rw[q] at e;simp only at e;obtain ⟨hk,-⟩:=zrj h q;unfold rnP at e
   by_cases d:(paI ws ps t).2.2=0
   ·rw[if_pos d] at e;unfold rnN at e
    split at e
    ·simp at e
    ·split at e
     ·simp at e
     ·obtain ⟨rfl,-⟩:=Prod.mk.inj e;exact ⟨zve hk _,by simp[enL]⟩
   ·rw[if_neg d] at e;exact absurd (Prod.mk.inj e).2 d
 ·rw[if_neg c] at e;exact absurd (Prod.mk.inj e).2 c
def Wv (us:List Se):Prop:=∀ u∈us,0≤u.val∧u.val < 1099511627776
theorem Wv.app {us vs:List Se} (h:Wv us) (k:Wv vs):Wv (us ++ vs):=fun u hu=>by
 rcases List.mem_append.1 hu with q | q
 ·exact h u q
 ·exact k u q
theorem Wv.one {a x:Int} (h:0≤x∧x < 1099511627776):Wv [⟨a,x⟩]:=fun u hu=>by
 rw[List.mem_singleton.1 hu];exact h
theorem Wv.cons {a x:Int} {us:List Se} (h:0≤x∧x < 1099511627776) (k:Wv us):Wv (⟨a,x⟩ :: us):=fun u hu=>by
 rcases List.mem_cons.1 hu with rfl | q
 ·exact h
 ·exact k u q
theorem yaas {k:Int} {x:Den} (hd:0≤x.dir∧x.dir≤15) (hn:nmB x.name=true∨x.name.size=0) (hc:-1≤x.child∧x.child≤15):Wv (enL k x):=by
 unfold enL;refine Wv.cons (by omega) (Wv.cons ?_ (Wv.one (by omega)))
 rcases hn with q | q
 ·have:=yaoz (s:=x.name) (k:=x.name.size) (fun j hj _=>(zdc q).2.2 j hj) (zdc q).2.1;omega
 ·rw[yafn q];omega
theorem yapx {i:Int}:Wv (wrL i zav 8):=fun u hu=>by
 unfold wrL at hu
 rcases List.mem_append.1 hu with q | q
 ·simp only[List.mem_cons,List.not_mem_nil,or_false] at q
  rcases q with rfl | rfl | rfl
  all_goals exact ⟨Int.le_refl 0,show (0:Int) < 1099511627776 by decide⟩
 ·obtain ⟨j,hj,rfl⟩:=List.mem_map.1 q;have hj8:=List.mem_range.1 hj
  have e:zav.map.getD j 0=0:=by
   rcases (show j=0∨j=1∨j=2∨j=3∨j=4∨j=5∨j=6∨j=7 by omega) with rfl | rfl | rfl | rfl | rfl | rfl | rfl | rfl <;> rfl
  exact ⟨by show 0≤zav.map.getD j 0;rw[e];omega,by show zav.map.getD j 0 < 1099511627776;rw[e];omega⟩
theorem yaqu {ws:List Ino} {ps:List Den} {s:ByteArray} {kind:Int} {us:List Se} (h:Img ws ps) (hk:1≤kind∧kind≤2) (e:mkI ws ps s kind=(us,0)):Wv us:=by
 unfold mkI at e
 by_cases c:(paI ws ps s).2.2=0
 ·rw[if_pos c] at e;obtain ⟨p1,-,p3⟩:=zic (zca.2 h) c;unfold mkN at e
  split at e
  ·simp at e
  ·split at e
   ·simp at e
   ·rename_i f1
    split at e
    ·simp at e
    ·obtain ⟨rfl,-⟩:=Prod.mk.inj e;obtain ⟨i,ei,hi,-⟩:=yafx h f1;rw[ei];unfold mkU;exact Wv.app (Wv.cons (by omega) (Wv.one (by omega))) (yaas p1 (.inl p3) (by show -1≤(i:Int)∧(i:Int)≤15;omega))
 ·rw[if_neg c] at e;exact absurd (Prod.mk.inj e).2 c
theorem yafl {ws:List Ino} {ps:List Den} (h:Img ws ps) {i:Nat} (hi:i < 16):0≤zda ws (i:Int)∧zda ws (i:Int)≤24:=(zft (h.ok i hi)).2.2.1
theorem yatm {ws:List Ino} {ps:List Den} {s:ByteArray} {us:List Se} (h:Img ws ps) (e:rmI ws ps s=(us,0)):Wv us:=by
 unfold rmI at e
 by_cases c:(paI ws ps s).2.2=0
 ·rw[if_pos c] at e;unfold rmN at e
  cases q:zbd ps (paI ws ps s).1 (paI ws ps s).2.1 with
  | none=>rw[q] at e;simp at e
  | some k =>
   rw[q] at e;simp only at e;obtain ⟨hk,i,ei,_,hi,-⟩:=zrj h q;unfold rmC at e
   split at e
   ·simp at e
   ·obtain ⟨rfl,-⟩:=Prod.mk.inj e;have l:=yafl h hi;rw[ei];unfold rmU;have f:Wv (enL (k:Int) freeD):=yaas (by decide) (.inr rfl) (by decide)
    split
    ·exact Wv.app f (Wv.one (by omega))
    ·exact Wv.app f yapx
 ·rw[if_neg c] at e;exact absurd (Prod.mk.inj e).2 c
theorem yatl {ws:List Ino} {ps:List Den} {s t:ByteArray} {us:List Se} (h:Img ws ps) (e:lnI ws ps s t=(us,0)):Wv us:=by
 unfold lnI at e
 by_cases c0:(lkI ws ps s).2=0
 ·rw[if_pos c0] at e
  split at e
  ·simp at e
  ·rename_i kk;obtain ⟨i,ei,hi,_,_⟩:=zne h c0 kk;unfold lnP at e
   by_cases c:(paI ws ps t).2.2=0
   ·rw[if_pos c] at e;obtain ⟨p1,-,p3⟩:=zic (zca.2 h) c;unfold lnN at e
    split at e
    ·simp at e
    ·split at e
     ·simp at e
     ·obtain ⟨rfl,-⟩:=Prod.mk.inj e;have l:=yafl h hi;rw[ei];exact Wv.app (yaas p1 (.inl p3) (by show -1≤(i:Int)∧(i:Int)≤15;omega)) (Wv.one (by omega))
   ·rw[if_neg c] at e;exact absurd (Prod.mk.inj e).2 c
 ·rw[if_neg c0] at e;exact absurd (Prod.mk.inj e).2 c0
theorem yati {ws:List Ino} {ps:List Den} {s t:ByteArray} {us:List Se} (h:Img ws ps) (e:rnI ws ps s t=(us,0)):Wv us:=by
 unfold rnI at e
 by_cases c:(paI ws ps s).2.2=0
 ·rw[if_pos c] at e;unfold rnE at e
  cases q:zbd ps (paI ws ps s).1 (paI ws ps s).2.1 with
  | none=>rw[q] at e;simp at e
  | some k =>
   rw[q] at e;simp only at e;obtain ⟨hk,i,ei,_,hi,-⟩:=zrj h q;unfold rnP at e
   by_cases d:(paI ws ps t).2.2=0
   ·rw[if_pos d] at e;obtain ⟨p1,-,p3⟩:=zic (zca.2 h) d;unfold rnN at e
    split at e
    ·simp at e
    ·split at e
     ·simp at e
     ·obtain ⟨rfl,-⟩:=Prod.mk.inj e;rw[ei];exact yaas p1 (.inl p3) (by show -1≤(i:Int)∧(i:Int)≤15;omega)
   ·rw[if_neg d] at e;exact absurd (Prod.mk.inj e).2 d
 ·rw[if_neg c] at e;exact absurd (Prod.mk.inj e).2 c
theorem yash {ns:List Ino} {ds:List Den} {s:ByteArray} {g:Int} {us:List Se} (h:Img ns ds) (e:cuI ns ds s g=(us,0)):UpIn us∧us.length≤16∧Wv us:=by
 unfold cuI at e
 by_cases c:(flI ns ds s).2=0
 ·rw[if_pos c] at e;obtain ⟨i,hi,ei,-⟩:=zlh h c;rw[ei] at e;unfold cuF at e
  split at e
  ·rename_i d;obtain ⟨rfl,-⟩:=Prod.mk.inj e;have l:=zxz (zci ns ((i:Nat):Int).toNat).map (i:Int) g.toNat 8;unfold cuU;refine ⟨fun u hu=>?_,by show (cuT _ _ _ _).length+1≤16;omega,Wv.cons (by omega) (fun u hu=>?_)⟩
   ·rcases List.mem_cons.1 hu with rfl | q
    ·exact ⟨by show 48≤48+12*(i:Int)+1;omega,by show 48+12*(i:Int)+1 < 312;omega⟩
    ·exact yarg hi (Nat.le_refl 8) u q
   ·unfold cuT at hu;obtain ⟨j,-,rfl⟩:=List.mem_map.1 hu;exact ⟨Int.le_refl 0,show (0:Int) < 1099511627776 by decide⟩
  ·simp at e
 ·rw[if_neg c] at e;exact absurd (Prod.mk.inj e).2 c
theorem yarq {ws:List Ino} {ps:List Den} {s:ByteArray} {kind:Int}:¬ (mkI ws ps s kind).2=0→(mkI ws ps s kind).1=[]:=by
 unfold mkI mkN
 repeat' split
 all_goals simp
theorem yata {ws:List Ino} {ps:List Den} {s:ByteArray}:¬ (rmI ws ps s).2=0→(rmI ws ps s).1=[]:=by
 unfold rmI rmN rmC
 repeat' split
 all_goals simp
theorem yatf {ws:List Ino} {ps:List Den} {s t:ByteArray}:¬ (lnI ws ps s t).2=0→(lnI ws ps s t).1=[]:=by
 unfold lnI lnP lnN
 repeat' split
 all_goals simp
theorem yats {ws:List Ino} {ps:List Den} {s t:ByteArray}:¬ (rnI ws ps s t).2=0→(rnI ws ps s t).1=[]:=by
 unfold rnI rnE rnP rnN
 repeat' split
 all_goals simp
theorem yate {ns:List Ino} {ds:List Den} {s:ByteArray} {g:Int}:¬ (cuI ns ds s g).2=0→(cuI ns ds s g).1=[]:=by
 unfold cuI cuF
 repeat' split
 all_goals simp
theorem yasj {ns:List Ino} {ds:List Den} {k:Int} {p t:ByteArray} {g:Int}:¬ (uoI ns ds k p t g).2=0→(uoI ns ds k p t g).1=[]:=by
 unfold uoI
 split
 ·exact yarq
 split
 ·exact yarq
 split
 ·exact yata
 split
 ·exact yatf
 split
 ·exact yats
 ·exact yate
theorem yanp {ns:List Ino} {ds:List Den} {k:Int} {p t:ByteArray} {g:Int} (h:Img ns ds) (c:(uoI ns ds k p t g).2=0):UpIn (uoI ns ds k p t g).1∧(uoI ns ds k p t g).1.length≤16∧Wv (uoI ns ds k p t g).1:=by
 have E:∀ r:List Se×Int,r.2=0→r=(r.1,0):=fun r q=>by rw[← q]
 revert c
 unfold uoI
 by_cases c1:k=1
 ·rw[if_pos c1]
  exact fun c=>⟨(yamp h (E _ c)).1,(yamp h (E _ c)).2,yaqu h ⟨by decide,by decide⟩ (E _ c)⟩
 rw[if_neg c1]
 by_cases c2:k=2
 ·rw[if_pos c2]
  exact fun c=>⟨(yamp h (E _ c)).1,(yamp h (E _ c)).2,yaqu h ⟨by decide,by decide⟩ (E _ c)⟩
 rw[if_neg c2]
 by_cases c3:k=3
 ·rw[if_pos c3]
  exact fun c=>⟨(yarx h (E _ c)).1,(yarx h (E _ c)).2,yatm h (E _ c)⟩
 rw[if_neg c3]
 by_cases c4:k=4
 ·rw[if_pos c4]
  exact fun c=>⟨(yasm h (E _ c)).1,(yasm h (E _ c)).2,yatl h (E _ c)⟩
 rw[if_neg c4]
 by_cases c5:k=5
 ·rw[if_pos c5]
  exact fun c=>⟨(yase h (E _ c)).1,(yase h (E _ c)).2,yati h (E _ c)⟩
 rw[if_neg c5]
 exact fun c=>yash h (E _ c)
theorem yaku {ns:List Ino} {ds:List Den} {k:Int} {p t:ByteArray} {g:Int} (h:Img ns ds):(uoI ns ds k p t g).1.length≤64∧∀ j (q:j < (uoI ns ds k p t g).1.length),0≤(uoI ns ds k p t g).1[j].at_∧(uoI ns ds k p t g).1[j].at_ < 336:=by
 by_cases c:(uoI ns ds k p t g).2=0
 ·obtain ⟨a,b,-⟩:=yanp h c;refine ⟨by omega,fun j q=>?_⟩;have:=a _ (List.getElem_mem q);omega
 ·have e:=yasj c;exact ⟨by rw[e];simp,fun j q=>by rw[e] at q;cases q⟩
theorem yatv {ns:List Ino} {ds:List Den} {k:Int} {p t:ByteArray} {g:Int} (h:Img ns ds) (c:(uoI ns ds k p t g).2=0):jpC (uoI ns ds k p t g).1=0∧jpL (uoI ns ds k p t g).1=zdg (zdx (uoI ns ds k p t g).1):=by
 obtain ⟨a,b,v⟩:=yanp h c
 have u:upsB (uoI ns ds k p t g).1=true:=decide_eq_true fun j q=>by
  have:=a _ (List.getElem_mem q);exact ⟨by omega,v _ (List.getElem_mem q)⟩
 rcases znl (uoI ns ds k p t g).1 with ⟨c,_⟩ | ⟨_,c,_⟩ | ⟨_,_,c,_⟩ | ⟨_,_,_,c⟩
 ·omega
 ·omega
 ·rw[u] at c;cases c
 ·exact c
end Go.Proofs.YtehnphoeplmpdaaGreatDoor

namespace Go.Proofs.YtehnphoeplmpdaaGreatDoor
open Go.RowKit Go.Maps
theorem yaqr {ws:List Ino} {ps:List Den} {s:ByteArray}:rmR ws ps s=if (paR ws ps s).2.2=0 then rmN ws ps (paR ws ps s).1 (paR ws ps s).2.1 else ([],(paR ws ps s).2.2):=by
 unfold rmR paR
 by_cases c:65536 < s.size
 ·rw[if_pos c,if_pos c];rfl
 ·rw[if_neg c,if_neg c]
  by_cases c1:zay ws ps=true
  ·rw[if_pos c1,if_pos c1];rfl
  ·rw[if_neg c1,if_neg c1];rfl
theorem zke (v:Value) (ws:List Ino) (ps:List Den) (s:ByteArray) (w:World) (h:RdIm w v ws ps) (hw:ws.length≤1048576) (hp:ps.length≤1048576) (hT:TS w) (hE:ED w) (hF:FD w) (hr:∀ k (h:k < ws.length),ws[k].R) (hs:∀ k (h:k < ps.length),ps[k].name.size≤maxLen) :
  Calls Tryz.prog 184 #[v,.string s] w fun e w'=>zfa w w' e (rmR ws ps s):=by
 have LN:=zaa (fun b D w1 (hb:Below w.heap.size w w1) hm=>zpd v ws ps s b D w1 (h.below hb) hw hp (hT.below hb) (hE.below hb) (hF.below hb) hr hs hm);have LT:=zaa (fun d b D w1 (hb:Below w.heap.size w w1) hi hm=>zlj v ws ps d b D w1 (h.below hb) hi hm (hF.below hb));have LD:=zaa (fun k x w1 (hb:Below w.heap.size w w1) hs=>zbx k x w1 (hF.below hb) hs);have LU:=zaa (fun i x w1 (hb:Below w.heap.size w w1) hi hl=>zlc i x w1 hi hl (hT.below hb) (hE.below hb));have FDB:=zaa (fun w1 (hb:Below w.heap.size w w1)=>(hF.below hb).cells);have EL:=zaa (@yaqr ws ps s);have EN:=zaa (fun d nm=>show rmN ws ps d nm=match zbd ps d nm with | none=>([],5) | some k=>rmC ws ps k from rfl);have EC:=zaa (fun k=>show rmC ws ps k=if zai ws (zaj ps k)=2∧¬ zbg ps (zaj ps k)=[] then ([],11) else (rmU (k:Int) (zaj ps k) (zda ws (zaj ps k)),0) from rfl);have ER:=zaa (show erR ws ps s=if (paR ws ps s).2.2=0 then erN ps (paR ws ps s).1 (paR ws ps s).2.1 else (0,(paR ws ps s).2.2) from rfl);have EM:=zaa (fun d nm=>show erN ps d nm=match zbd ps d nm with | none=>(0,5) | some k=>((k:Int),0) from rfl);have PR:=zaa (@yahr ws ps s);have CR:=zaa (fun hi d nm k e=>zdd (ws:=ws) (ps:=ps) hi (d:=d) (nm:=nm) (k:=k) e);have LR:=zaa (fun hi i h0=>zil (ws:=ws) (ps:=ps) hi (i:=i) h0);have MZ:=zaa (fun hi d=>yaov (ws:=ws) (ps:=ps) hi d);have FE:=zaa (fun hi d k=>yadv (ws:=ws) (ps:=ps) hi (d:=d) k);have PA:=zaa (fun hi=>zao (ws:=ws) (ps:=ps) hi);obtain ⟨vW,vP,rfl,h1,h2⟩:=h;obtain ⟨aW,cW,rfl,_,hcW⟩:=h1.shape;obtain ⟨aP,cP,rfl,_,hcP⟩:=h2.shape;have HW:=zaa hcW;have HP:=zaa hcP;clear h1 h2 hr hs hT hE hF hcW hcP
 have CA:Hid (∀ w',Below (w.alloc (.cells #[.slice aW ws.length cW,.slice aP ps.length cP] 79)).heap.size (w.alloc (.cells #[.slice aW ws.length cW,.slice aP ps.length cP] 79)) w'→w'.cell? ⟨w.heap.size,0,none⟩=some (.slice aW ws.length cW)∧w'.cell? ⟨w.heap.size,1,none⟩=some (.slice aP ps.length cP)):=fun w' hb=>by
  have:w'.heap[w.heap.size]?=some (.cells #[.slice aW ws.length cW,.slice aP ps.length cP] 79 (0,0)):=(hb.block _ (by simp)).trans (zah rfl);exact ⟨(zac this).1,(zac this).2.1⟩
 have BW:Hid (Below w.heap.size w (w.alloc (.cells #[.slice aW ws.length cW,.slice aP ps.length cP] 79))):=(Below.refl _ _).alloc (Nat.le_refl _) _;generalize rmR ws ps s=res at *;generalize erR ws ps s=er at *;generalize hpr:paR ws ps s=pr at *;clear hpr
 obtain ⟨W,hW⟩:∃ W,W=w.alloc (.cells #[.slice aW ws.length cW,.slice aP ps.length cP] 79):=⟨_,rfl⟩
 have M1:Hid (Mp ((w.alloc (.cells #[.slice aW ws.length cW,.slice aP ps.length cP] 79)).alloc (.map #[] 0)) (w.heap.size+1) (.map [])):=by
  have:=ztt (w:=w.alloc (.cells #[.slice aW ws.length cW,.slice aP ps.length cP] 79));rw[World.size_alloc] at this;exact this
 have A1:Hid (Below W.heap.size W ((w.alloc (.cells #[.slice aW ws.length cW,.slice aP ps.length cP] 79)).alloc (.map #[] 0))):=by rw[← hW];exact zso (Below.refl _ _) _
 rw[← hW] at CA BW
 have hz:w.heap.size < W.heap.size:=by rw[hW];simp
 have hWs:W.heap.size≤w.heap.size+1:=by rw[hW];simp
 have B1:=zaa (zab BW.o A1.o (by omega));obtain ⟨x0,x1⟩:=CA.o _ A1.o;obtain ⟨pd,pn,pc⟩:=pr;obtain ⟨ek,ec⟩:=er;simp only at EL ER PR LN;have hmm:=@run_makeMap Tryz.prog;go_enter Tryz.func184,Tryz.ntmps184;go_wp2_with fail;refine (LN.o _ _ _ B1.o M1.o).mono ?_;rintro e w2 ⟨rfl,⟨D2,hm2⟩,hg2⟩;have A2:=zaa (zdr A1.o hg2 hWs);have B2:=zaa (zab BW.o A2.o (by omega));have M2:=zaa hm2;clear x0 x1 hg2 LN M1 A1 B1 hmm hm2 hW
 by_cases c:pc=0
 case neg =>
  rw[if_neg c] at EL ER;obtain rfl:=EL.o;have e2:=ER.o;simp only[Prod.mk.injEq] at e2;obtain ⟨-,rfl⟩:=e2
  have q:(ec != 0)=true:=by rw[bne_iff_ne];exact c
  clear c EL ER;go_wp2;go_ret2;exact zcb B2.o
 rw[if_pos c] at EL ER;subst c;obtain ⟨hi,-⟩:=PR.o rfl;rw[EM.o] at ER;rw[EN.o] at EL;clear PR EM EN
 cases he:zbd ps pd pn with
 | none =>
  rw[he] at EL ER;obtain rfl:=EL.o;have e2:=ER.o;simp only[Prod.mk.injEq] at e2;obtain ⟨-,rfl⟩:=e2;clear EL ER;go_wp2;go_ret2;exact zcb B2.o
 | some k =>
 rw[he] at EL ER;have e2:=ER.o;simp only[Prod.mk.injEq] at e2;obtain ⟨rfl,rfl⟩:=e2;have EL2:Hid (res=rmC ws ps k):=EL.o;rw[EC.o] at EL2;obtain ⟨k1,k2⟩:=CR.o hi _ _ _ he;have lr:=LR.o hi _ k2;obtain ⟨l16,l24,_⟩:=PA.o hi;obtain ⟨bW,oW,rfl,hblW,hcellW⟩:=HW.o (by omega);obtain ⟨bP,oP,rfl,hblP,hcellP⟩:=HP.o (by omega);have HPk:=zaa (fun w' (hb:Below w.heap.size w w')=>((hb.cell (p:=⟨bP,oP+k*3+2,none⟩) hblP).trans (hcellP k k1).2.2).trans (by rw[← zbc k1]));have LTk:=zaa (fun b D w1 hb hm=>LT.o (zaj ps k) b D w1 hb hi hm);obtain ⟨ma,mb⟩:=MZ.o hi (zaj ps k);have MA:=zaa ma;have MB:=zaa mb;have FEk:=zaa (FE.o hi (zaj ps k))
 obtain ⟨i,hi'⟩:∃ i:Nat,zaj ps k=(i:Int):=⟨(zaj ps k).toNat,by omega⟩
 rw[hi'] at EL2 lr HPk LTk MA MB FEk
 have i1:i < ws.length:=by omega
 have CI:=zaa (hcellW i i1);have lx:Hid (ws[i].links=zda ws (i:Int)):=(zex i1).symm
 have k24:k < 24:=by omega
 have i16:i < 16:=by omega
 have kl:(k:Int) < (ps.length:Int):=by omega
 have il:(i:Int) < (ws.length:Int):=by omega
 have k0:(0:Int)≤(k:Int):=by omega
 have i0:(0:Int)≤(i:Int):=by omega
 clear EL EC CR LR ER he HP HW LT hi' k2 hblP l16 l24 hcellW hcellP MZ FE PA ma mb hi;generalize ws[i]=xi at *;generalize zai ws (i:Int)=kd at *;generalize zda ws (i:Int)=lk at *;generalize zbg ps (i:Int)=nms at *;generalize mpD ps (i:Int) ps.length=D3 at *;obtain ⟨x0,x1⟩:=CA.o _ A2.o;have y0:=HPk.o _ B2.o;go_wp2_with fail;refine (LTk.o _ _ _ B2.o M2.o).mono ?_;rintro e w3 ⟨rfl,hm3,hg3⟩;have A3:=zaa (zdr A2.o hg3 hWs);have B3:=zaa (zab BW.o A3.o (by omega));have M3:=zaa hm3;clear x0 x1 y0 hg3 hm3 LTk A2 B2 M2 HPk
 by_cases q:nms=[]
 case neg =>
  have q2:kd=2:=Classical.byContradiction fun a=>q (FEk.o a)
  rw[if_pos ⟨q2,q⟩] at EL2;obtain rfl:=EL2.o;have sz:=MB.o q;clear EL2 q q2 MA MB FEk
  have sz2:(Maps.size D3:Int) > 0:=by omega
  go_wp2_with (at_len;refine wpList_len_own _ rfl _ 265 rfl 9 3 mapU _ (w.heap.size+1) 4096 D3 rfl M3.o ?_);go_wp2;go_ret2;exact zcb B3.o
 have EL3:Hid (res=(rmU (k:Int) (i:Int) lk,0)):=EL2.o.trans (if_neg (by rintro ⟨_,b⟩;exact b q));have sz:=MA.o q;clear EL2 q MA MB FEk
 have sz2:(Maps.size D3:Int)=0:=by omega
 have EU:=zaa (show rmU (k:Int) (i:Int) lk=enL (k:Int) freeD ++ (if 1 < lk then [⟨48+12*(i:Int)+2,lk - 1⟩] else wrL (i:Int) zav 8) from rfl);generalize rmU (k:Int) (i:Int) lk=ru at *;obtain rfl:=EL3.o;clear EL3;obtain ⟨d1,d2⟩:=yamr (k:=(k:Int)) (x:=freeD) (by omega) yafg;have LD2:=zaa (LD.o (k:Int) freeD w3 B3.o (by show (0:Nat)≤maxLen;unfold maxLen;omega));rw[d1,d2,show freeD.v=.agg #[.int .i64 0,.string ⟨#[]⟩,.int .i64 (-1)] from rfl] at LD2;have l3:(enL (k:Int) freeD).length≤3:=Nat.le_refl _;have LU2:=zaa (fun w1 hb=>LU.o (i:Int) xi w1 hb (by omega) (by rw[lx.o];omega));have EX:=zaa (show unL (i:Int) xi=if 1 < lk then [⟨48+12*(i:Int)+2,lk - 1⟩] else wrL (i:Int) zav 8 by unfold unL;rw[lx.o]);rw[← EX.o] at EU
 have l11:(unL (i:Int) xi).length≤11:=by
  rw[EX.o]
  split
  ·simp
  ·rw[ztd];omega
 rw[show xi.v=.agg #[.int .i64 xi.kind,.int .i64 xi.size,.int .i64 xi.links,.int .i64 xi.m0,.int .i64 xi.m1,.int .i64 xi.m2,.int .i64 xi.m3,.int .i64 xi.m4,.int .i64 xi.m5,.int .i64 xi.m6,.int .i64 xi.m7] from rfl] at LU2;generalize enL (k:Int) freeD=EN at *;generalize unL (i:Int) xi=UL at *;obtain ⟨f0,f1,f2⟩:=FDB.o _ B3.o;clear d1 d2 LD LU EX lx;go_wp2_with (at_len;refine wpList_len_own _ rfl _ 265 rfl 9 3 mapU _ (w.heap.size+1) 4096 D3 rfl M3.o ?_);refine LD2.o.mono ?_;rintro e w4 ⟨v4,rfl,hr4,hb4⟩
 have J4:Hid (UpI w3 w4 v4 EN):=⟨hr4.1,hb4⟩
 obtain ⟨-,aE,cE,hvE,-⟩:=hr4.rd;subst hvE;have A4:=zaa (zab A3.o hb4 A3.o.size);have B4:=zaa (zab B3.o hb4 B3.o.size);obtain ⟨x0,x1⟩:=CA.o _ A4.o;obtain ⟨c0,c1,c2,c3,c4,c5,c6,c7,c8,c9,c10⟩:=CI.o;have d0:=(B4.o.cell (p:=⟨bW,oW+i*11,none⟩) hblW).trans c0;have d1:=(B4.o.cell (p:=⟨bW,oW+i*11+1,none⟩) hblW).trans c1;have d2:=(B4.o.cell (p:=⟨bW,oW+i*11+2,none⟩) hblW).trans c2;have d3:=(B4.o.cell (p:=⟨bW,oW+i*11+3,none⟩) hblW).trans c3;have d4:=(B4.o.cell (p:=⟨bW,oW+i*11+4,none⟩) hblW).trans c4;have d5:=(B4.o.cell (p:=⟨bW,oW+i*11+5,none⟩) hblW).trans c5;have d6:=(B4.o.cell (p:=⟨bW,oW+i*11+6,none⟩) hblW).trans c6;have d7:=(B4.o.cell (p:=⟨bW,oW+i*11+7,none⟩) hblW).trans c7;have d8:=(B4.o.cell (p:=⟨bW,oW+i*11+8,none⟩) hblW).trans c8;have d9:=(B4.o.cell (p:=⟨bW,oW+i*11+9,none⟩) hblW).trans c9;have d10:=(B4.o.cell (p:=⟨bW,oW+i*11+10,none⟩) hblW).trans c10;clear c0 c1 c2 c3 c4 c5 c6 c7 c8 c9 c10 CI hr4 hb4 f0 f1 f2 LD2 FDB;go_wp2_with fail;refine (LU2.o _ B4.o).mono ?_;rintro e w5 ⟨v5,rfl,hr5,hb5⟩;have J5:=zaa (J4.o.below hb5);have R5:=zaa hr5.rd;obtain ⟨-,aF,cF,hvF,-⟩:=hr5.rd;subst hvF;have z5:w3.heap.size≤w5.heap.size:=J5.o.z;clear hr5 hb5 J4 LU2 x0 x1 d0 d1 d2 d3 d4 d5 d6 d7 d8 d9 d10 CA;go_wp2_with (at_builtin;refine zag _ rfl (.tmp 42) (.tmp 49) 135 rfl w3.heap.size 180 (.agg #[.int .i64 0,.int .i64 0]) 2 16 Tryz.underlying135 zfg rfl (by decide) _ _ _ rfl J5.o.l _ _ _ rfl R5.o (zcm _) (by simp[maxLen];omega) (by omega) z5 ?_);intro vN wN hownN hgrN;have G:=zaa (J5.o.grow UL hownN hgrN);rw[← EU.o] at G;have G2:=zaa (G.o.wide B3.o);obtain ⟨-,aN,cN,hvN,-⟩:=(zad G2.o.l).rd;subst hvN;clear hownN hgrN J5 R5 G;go_wp2;go_ret2;exact zpi 0 G2.o
end Go.Proofs.YtehnphoeplmpdaaGreatDoor
