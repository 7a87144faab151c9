/- What is used, and what is free: by the model and by the program. -/
import Derived.Test.YtehnphoeplmpdaaGreatDoorZAM
set_option maxRecDepth 100000
set_option maxHeartbeats 4000000
namespace Go.Proofs.YtehnphoeplmpdaaGreatDoor
open Go.RowKit
def zas (p:Nat→Bool) (n:Nat):Int:=match (List.range n).find? p with | some i=>(i:Int) | none=>-1
theorem zfl {p:Nat→Bool} {n k:Nat} (hk:k < n) (h:∀ j,j < k→p j=false) (e:p k=true):zas p n=(k:Int):=by
 have:(List.range n).find? p=some k:=List.find?_range_eq_some.2 ⟨e,List.mem_range.2 hk,fun j hj=>by rw[h j hj];rfl⟩;unfold zas;rw[this]
theorem zdh {p:Nat→Bool} {n:Nat} (h:∀ j,j < n→p j=false):zas p n=-1:=by
 have:(List.range n).find? p=none:=List.find?_eq_none.2 (fun j hj=>by rw[h j (List.mem_range.1 hj)];decide);unfold zas;rw[this]
theorem zdf (p:Nat→Bool) (n:Nat):-1≤zas p n∧zas p n < n:=by
 unfold zas
 split
 ·rename_i i h;have:=List.mem_range.1 (List.mem_of_find?_eq_some h);omega
 ·omega
theorem zzn {p q:Nat→Bool} {n:Nat} (h:∀ j,j < n→p j=q j):zas p n=zas q n:=by
 rcases Classical.em (∃ k,k < n∧p k=true∧∀ j,j < k→p j=false) with ⟨k,hk,e,f⟩ | hn
 ·rw[zfl hk f e,zfl hk (fun j hj=>by rw[← h j (by omega)];exact f j hj) (by rw[← h k hk];exact e)]
 ·have a:∀ m,m≤n→∀ j,j < m→p j=false:=by
   intro m
   induction m with
   | zero=>intro _ j hj;omega
   | succ m ih =>
    intro hm j hj
    by_cases e:j=m
    ·subst e
     cases hp:p j with
     | false=>rfl
     | true=>exact absurd ⟨j,by omega,hp,ih (by omega)⟩ hn
    ·exact ih (by omega) j (by omega)
  rw[zdh (a n (Nat.le_refl _)),zdh (fun j hj=>by rw[← h j hj];exact a n (Nat.le_refl _) j hj)]
def zgb (r:Int):Int:=if r < 0 then 0 else r
def zfq (r:Int):Int:=if r < 0 then 7 else 0
def ubC (b:Bool) (t:Int):Int:=if b=true then (if t=1∨t=2 then 0 else 4) else 1
def ubL (b:Bool) (ms:List Int) (t:Int):List Int:=if b=true∧(t=1∨t=2) then zaw ms t else []
theorem zec {ws:List Ino} {ps:List Den} (h:zay ws ps=true):ws.length=16∧ps.length=24∧zai ws 0=2∧zxg ws=true:=by
 unfold zay at h;simp only[Bool.and_eq_true,decide_eq_true_eq,beq_iff_eq] at h;exact ⟨h.1,h.2.1,h.2.2.1,h.2.2.2.1⟩
theorem yage {l:List Int} {t:Int} {k:Nat} (hk:k < l.length):zaw (l.take (k+1)) t=if l[k] % 4=t then zaw (l.take k) t ++ [l[k] / 4] else zaw (l.take k) t:=by
 unfold zaw;rw[List.take_succ_eq_append_getElem hk,List.filter_append,List.map_append]
 by_cases h:l[k] % 4=t
 ·rw[if_pos h];simp[h]
 ·rw[if_neg h];simp[h]
theorem zrc (v:Value) (ws:List Ino) (ps:List Den) (t:Int) (w:World) (h:RdIm w v ws ps) (hw:ws.length≤1048576) (hp:ps.length≤1048576) (hT:TS w) (hE:ED w) (hF:FD w) (hr:∀ k (h:k < ws.length),ws[k].R) (hs:∀ k (h:k < ps.length),ps[k].name.size≤maxLen) :
  Calls Tryz.prog 320 #[v,.int .i64 t] w fun e w'=>∃ v',e=.returned (.tuple #[v',.int .i64 (ubC (zay ws ps) t)])∧Row w' 3 1 w.heap.size w'.heap.size v' (ubL (zay ws ps) (zam ws) t).length (zeg (ubL (zay ws ps) (zam ws) t))∧Below w.heap.size w w':=by
 have LI:=zaa (fun w1 (hb:Below w.heap.size w w1)=>zbp v ws ps w1 (h.below hb) hw hp (hT.below hb) (hE.below hb) (hF.below hb) hr hs);have T:=zaa hT;obtain ⟨vW,vP,rfl,h1,h2⟩:=h;have RW:=zaa h1;obtain ⟨aW,cW,rfl,_,_⟩:=h1.shape;obtain ⟨aP,cP,rfl,_,_⟩:=h2.shape;have LM:=zaa (fun w1 (hb:Below w.heap.size w w1) (hl:ws.length≤4096)=>zge (.slice aW ws.length cW) ws w1 (Rd.below RW.o hb) hl);clear h1 h2 hr hs hT hE hF
 have CA:Hid (∀ w',Below (w.alloc (.cells #[.slice aW ws.length cW,.slice aP ps.length cP] 79)).heap.size (w.alloc (.cells #[.slice aW ws.length cW,.slice aP ps.length cP] 79)) w'→w'.cell? ⟨w.heap.size,0,none⟩=some (.slice aW ws.length cW)∧w'.cell? ⟨w.heap.size,1,none⟩=some (.slice aP ps.length cP)):=fun w' hb=>by
  have:w'.heap[w.heap.size]?=some (.cells #[.slice aW ws.length cW,.slice aP ps.length cP] 79 (0,0)):=(hb.block _ (by simp)).trans (zah rfl);exact ⟨(zac this).1,(zac this).2.1⟩
 have BW:Hid (Below w.heap.size w (w.alloc (.cells #[.slice aW ws.length cW,.slice aP ps.length cP] 79))):=(Below.refl _ _).alloc (Nat.le_refl _) _;obtain ⟨x0,x1⟩:=CA.o _ (Below.refl _ _)
 cases c1:zay ws ps with
 | false =>
  rw[c1] at LI;rw[show ubC false t=1 from rfl,show ubL false (zam ws) t=[] from if_neg (fun h=>by cases h.1)];clear c1;go_enter Tryz.func320,Tryz.ntmps320;go_wp2_with fail;refine (LI.o _ BW.o).mono ?_;rintro e w1 ⟨rfl,hb1⟩;have B1:=zaa (zab BW.o hb1 BW.o.size);clear hb1 x0 x1;go_wp2;go_ret2;exact ⟨_,rfl,Row.nil _ _ _ _ _,B1.o⟩
 | true =>
 rw[c1] at LI
 by_cases c2:t=1∨t=2
 case neg =>
  rw[show ubC true t=4 by unfold ubC;rw[if_pos rfl,if_neg c2],show ubL true (zam ws) t=[] from if_neg (fun h=>c2 h.2)]
  have q1:(t != 1)=true:=by rw[bne_iff_ne];exact fun e=>c2 (.inl e)
  have q2:(t != 2)=true:=by rw[bne_iff_ne];exact fun e=>c2 (.inr e)
  clear c1 c2;go_enter Tryz.func320,Tryz.ntmps320;go_wp2_with fail;refine (LI.o _ BW.o).mono ?_;rintro e w1 ⟨rfl,hb1⟩;have B1:=zaa (zab BW.o hb1 BW.o.size);clear hb1 x0 x1;go_wp2;go_ret2;exact ⟨_,rfl,Row.nil _ _ _ _ _,B1.o⟩
 rw[show ubC true t=0 by unfold ubC;rw[if_pos rfl,if_pos c2],show ubL true (zam ws) t=zaw (zam ws) t from if_pos ⟨rfl,c2⟩];have HL:=zaa (show ws.length≤4096 by have:=(zec c1).1;omega)
 have ml:(zam ws).length≤128:=by have:=zep ws;have:=(zec c1).1;omega
 have TI:Hid (∀ k (h:k < (zam ws).length),zfu (zam ws)[k]=true):=fun k hk=>by
  have hm:=List.getElem_mem hk;generalize (zam ws)[k]=e at hm ⊢;unfold zam at hm;obtain ⟨x,hx,he⟩:=List.mem_flatMap.1 hm;obtain ⟨i,hi,rfl⟩:=List.getElem_of_mem hx;unfold zyr at he;exact zpc (zec c1).2.2.2 i hi e (List.mem_filter.1 he).1
 have qq:((t != 1)=false∨((t != 1)=true∧(t != 2)=false)):=by rcases c2 with rfl | rfl <;> simp
 have TB:-10≤t∧t≤10:=by omega
 clear c1 c2;generalize zam ws=ms at *
 rcases qq with q1 | ⟨q1,q2⟩
 all_goals
  go_enter Tryz.func320,Tryz.ntmps320;go_wp2_with fail;refine (LI.o _ BW.o).mono ?_;rintro e w1 ⟨rfl,hb1⟩;have B1:=zaa (zab BW.o hb1 BW.o.size);clear x0 x1;obtain ⟨x0,x1⟩:=CA.o _ hb1;clear hb1;go_wp2_with fail;refine (LM.o _ B1.o HL.o).mono ?_;rintro e w2 ⟨v2,rfl,hr2,hb2⟩;obtain ⟨-,aM,cM,hvM,-⟩:=hr2.rd;subst hvM;have R2:Hid (RdI w2 (.slice aM ms.length cM) ms):=hr2.rd;have B2:=zaa (zab B1.o hb2 B1.o.size);have hz2:w.heap.size≤w2.heap.size:=B2.o.size;obtain ⟨aZ,cZ,eZ,_,hcZ⟩:=R2.o.shape;have HZ:=zaa hcZ
  obtain ⟨rfl,rfl⟩:aZ=aM∧cZ=cM:=by cases eZ;exact ⟨rfl,rfl⟩
  clear eZ hcZ hr2 hb2 x0 x1;go_wp2
  go_loopw [6,8,9,10,11,25] (fun vL _ _ _ _ i wr=>∃ k:Nat,k≤ms.length∧i=.int .i64 k∧Hid (InI w2 wr vL (zaw (ms.take k) t))∧w2.heap.size≤wr.heap.size) (fun _ _ _ _ _ i _=>ms.length - (intOf i).toNat)
  case atStart=>exact ⟨0,by omega,rfl,⟨World.ownsRow_nil _ _ _ _,Below.refl _ _⟩,Nat.le_refl _⟩
  case round =>
   obtain ⟨k,hk,rfl,I,hz⟩:=hrel
   by_cases hlt:k < ms.length
   ·obtain ⟨b,o,rfl,hbl,hcell⟩:=HZ.o (by omega);have hck:=(I.o.b.cell (p:=⟨b,o+k,none⟩) hbl).trans (hcell k hlt)
    have k0:(0:Int)≤(k:Int):=by omega
    have k1:(k:Int) < (ms.length:Int):=by omega
    have US:=zaa (yage (t:=t) hlt);have UL:=zgf (ms.take k) t;rw[List.length_take] at UL;obtain ⟨t1,t2,t3⟩:=zrw (TI.o k hlt);have t4:=zvt (TI.o k hlt);have LT:=zaa (fun w3 (hT:TS w3)=>zdv ms[k] w3 hT (by omega) (by omega));rw[t1,t2,t3] at LT;have TW:=zaa (T.o.below (zab B2.o I.o.b hz2));clear hcell t1 t2 t3;generalize ms[k]=z at hck US LT t4
    by_cases r:z % 4=t
    ·have r':(z % 4 == t)=true:=by rw[beq_iff_eq];exact r
     have JB:Hid (InI w2 (wr.alloc (.cells #[.int .i64 (z / 4)] 3)) u6 (zaw (ms.take k) t)):=I.o.below ((Below.refl _ _).alloc (Nat.le_refl _) _);have RB:=zaa (yaih wr (z / 4));have hzb:=JB.o.z
     have MN:Hid (zaw (ms.take (k+1)) t=zaw (ms.take k) t ++ [z / 4]):=by unfold Hid;rw[US.o,if_pos r]
     clear r I US
     go_wp2_with (first
      | (go_at_call 172;refine (LT.o _ TW.o).mono ?_;rintro e w' ⟨rfl,rfl⟩)
      | (at_builtin;refine zag _ rfl (.tmp 38) (.tmp 40) 22 rfl w2.heap.size 3 (.int .i64 0) 1 8 Tryz.underlying22 zwz rfl (by decide) _ _ _ rfl JB.o.l _ 1 _ rfl RB.o (zyl _) (by simp[maxLen];omega) (by omega) (by omega) ?_))
     intro vN wN hownN hgrN;have G:=zaa (JB.o.grow (z / 4) hownN hgrN);rw[← MN.o] at G;have hzN:=G.o.z;clear hownN hgrN JB RB;go_wp2
     go_roundw
     case rel=>exact ⟨k+1,by omega,by go_num,G,hzN⟩
     case measure=>simp[intOf];omega
    ·have r':(z % 4 == t)=false:=by rw[beq_eq_false_iff_ne];exact r
     have G:Hid (InI w2 wr u6 (zaw (ms.take (k+1)) t)):=by unfold Hid;rw[US.o,if_neg r];exact I.o
     clear r I US;go_wp2_with (go_at_call 172;refine (LT.o _ TW.o).mono ?_;rintro e w' ⟨rfl,rfl⟩)
     go_roundw
     case rel=>exact ⟨k+1,by omega,by go_num,G,hz⟩
     case measure=>simp[intOf];omega
   ·obtain rfl:k=ms.length:=by omega
    have E:=zaa (show zaw (ms.take ms.length) t=zaw ms t by rw[List.take_length]);rw[E.o] at I;obtain ⟨-,aL,cL,hvL,-⟩:=(zad I.o.l).rd;subst hvL;go_wp2;go_ret2;exact ⟨_,rfl,(zad I.o.l).wide hz2 (Nat.le_refl _),zab B2.o I.o.b hz2⟩
end Go.Proofs.YtehnphoeplmpdaaGreatDoor
