/- Recover: by the program: what is there is checked behind all. -/
import Derived.Test.YtahiphgmhndgaaaGreatDoorCrF
import Derived.Test.YtahiphgmhndgaaaGreatDoorZBL
import Derived.Test.YtahiphgmhndgaaaGreatDoorCrE
import Derived.Test.YtahiphgmhndgaaaGreatDoorZBC
import Derived.Test.YtahiphgmhndgaaaGreatDoorZBI
import Derived.Test.YtahiphgmhndgaaaGreatDoorHtA
import Derived.Defers
set_option maxRecDepth 100000
set_option maxHeartbeats 4000000
namespace Go.Proofs.YtahiphgmhndgaaaGreatDoor
open Go.RowKit
theorem yaqf (X:List Int) (k:Nat):(X.set k 0)[k]?.getD 0=0:=by
 rw[List.getElem?_set]
 split
 ·split
  ·rfl
  ·rfl
 ·rename_i c;exact absurd rfl c
theorem yafy (us:List St) (X:List Int):zvs (X,[]) (zhd us)=((zcq X us).set 8 0,[]):=by
 unfold zhd;rw[zjp,yakf,yakf];rfl
theorem yaor {ws es:List Int} (hp:pmB ws []=true) (hb:zbp es []=true) (hc:rpC ws []=0):∃ X,zgr ws [] es []=⟨0,X,[],es,[]⟩∧ldW X [] 8=0∧pmB X []=true:=by
 have l:=zky ws [];have k:=yadg (rpL ws []) ws [] es [] (fun m hm=>yaac ws [] m hm) (by simp only[List.length_nil];omega);have ok:=(zyz (rpL ws []) ws [] es [] hp hb (ztp ws [])).1;rw[k] at ok;simp only at ok
 have q:∃ X,zvs (ws,[]) (rpL ws [])=(X,[])∧ldW X [] 8=0:=by
  rcases zgv ws [] with ⟨c,_⟩ | ⟨_,N,hN,⟨_,f1,_⟩ | ⟨n0,_,f2⟩ | ⟨_,_,_,f1,_⟩ | ⟨_,_,_,_,f2⟩⟩
  ·rw[hp] at c;cases c
  ·rw[hc] at f1;cases f1
  ·rw[f2];exact ⟨ws,rfl,by rw[hN,n0];rfl⟩
  ·rw[hc] at f1;cases f1
  ·rw[f2,yafy];exact ⟨_,rfl,yaqf _ 8⟩
 obtain ⟨X,q1,q2⟩:=q;unfold zgr;rw[k];rw[q1] at ok;exact ⟨X,by rw[q1],q2,ok⟩
theorem yauo {ws es:List Int} (hp:pmB ws []=true) (hb:zbp es []=true):ms (rpL ws []) ws [] es []=zgr ws [] es []:=by
 have l:=zky ws [];exact yarl (by omega) (by rw[hp,hb,show yaev (rpL ws [])=true from decide_eq_true (fun _ hk=>ztp ws [] _ (List.getElem_mem hk))];rfl)
theorem yatz {X es:List Int} (hp:pmB X []=true) (hb:zbp es []=true) (h8:ldW X [] 8=0):(fsB X [] es [] (zgn 128) [] 0 0 [] false=true∧riC X []=0)∨(fsB X [] es [] (zgn 128) [] 0 0 [] false=false∧riC X []=3):=by
 have e:fsB X [] es [] (zgn 128) [] 0 0 [] false=riB (zcq X []):=by
  unfold fsB zra dvB todB noA;rw[hp,hb,yakt,h8];simp
 unfold riC;rw[e,if_pos hp]
 cases q:riB (zcq X []) with
 | true=>exact .inl ⟨rfl,rfl⟩
 | false=>exact .inr ⟨rfl,rfl⟩
theorem yaku {w:World} {b bF:Nat} {o:Obj} (hne:¬ b=bF) (h:w.heap[b]?=some o) (x0 x1 x2 x3 x4 x5 x6 x7 x8 x9:Value):(zee w bF x0 x1 x2 x3 x4 x5 x6 x7 x8 x9).heap[b]?=some o :=
 ((zeu w bF x0 x1 x2 x3 x4 x5 x6 x7 x8 x9).block b (zah h) (by omega)).trans h
theorem zot (bC bF:Nat) (t:TypeId) (c:Int) (u:FrameMode) (w:World) (hc:¬ c=0) (hC:w.heap[bC]?=some (.cells #[.int .i64 c] t (0,0))) :
  CallsD Tryz.prog 102 #[.pointer (some ⟨bC,0,none⟩),.pointer (some ⟨bF,0,none⟩)] u w fun e u' w'=>u'=u∧(e=.returned (.tuple #[])∧w'=w):=by
 obtain ⟨k0,-⟩:=zcb hC;go_enter_d Tryz.func102,Tryz.ntmps102;go_wp2;go_end0;exact ⟨rfl,rfl⟩
theorem znf (bC bF:Nat) (t:TypeId) (x0 x1 x2 x3 x4 x5 x6 x7 x8 x9:Value) (u:FrameMode) (w:World) (hC:w.heap[bC]?=some (.cells #[.int .i64 0] t (0,0))) (hF:w.heap[bF]?=some (.cells #[x0,x1,x2,x3,x4,x5,x6,x7,x8,x9] 51 (0,0)))
  (ok:Calls Tryz.prog 89 #[.agg #[x0,x1,x2,x3,x4,x5,x6,x7,x8,x9]] w fun e w'=>e=.returned (.bool true)∧Below w.heap.size w w') :
  CallsD Tryz.prog 102 #[.pointer (some ⟨bC,0,none⟩),.pointer (some ⟨bF,0,none⟩)] u w fun e u' w'=>u'=u∧(e=.returned (.tuple #[])∧Below w.heap.size w w'):=by
 have OK:=zaa ok;clear ok;obtain ⟨k0,-⟩:=zcb hC;obtain ⟨c0_0,c0_1,c0_2,c0_3,c0_4,c0_5,c0_6,c0_7,c0_8,c0_9,-⟩:=zam hF;clear hC hF;go_enter_d Tryz.func102,Tryz.ntmps102;go_wp2_with fail;refine OK.o.mono ?_;rintro e w1 ⟨rfl,hb⟩;have HB:=zaa hb;clear k0 hb c0_0 c0_1 c0_2 c0_3 c0_4 c0_5 c0_6 c0_7 c0_8 c0_9;go_wp2;go_end0;exact ⟨rfl,HB.o⟩
theorem znv (bC bF:Nat) (t:TypeId) (x0 x1 x2 x3 x4 x5 x6 x7 x8 x9:Value) (u:FrameMode) (w:World) (hC:w.heap[bC]?=some (.cells #[.int .i64 0] t (0,0))) (hF:w.heap[bF]?=some (.cells #[x0,x1,x2,x3,x4,x5,x6,x7,x8,x9] 51 (0,0))) (hne:¬ bC=bF)
  (ok:Calls Tryz.prog 89 #[.agg #[x0,x1,x2,x3,x4,x5,x6,x7,x8,x9]] w fun e w'=>e=.returned (.bool false)∧Below w.heap.size w w') :
  CallsD Tryz.prog 102 #[.pointer (some ⟨bC,0,none⟩),.pointer (some ⟨bF,0,none⟩)] u w fun e u' w'=>u'=u∧(e=.returned (.tuple #[])∧∃ w1,Below w.heap.size w w1∧w'=(zee w1 bF (.slice none 0 0) (.slice none 0 0) (.slice none 0 0) (.slice none 0 0) (.slice none 0 0) (.slice none 0 0) (.int .i64 0) (.int .i64 0) (.slice none 0 0) (.bool false)).setCell ⟨bC,0,none⟩ (.int .i64 3)):=by
 have OK:=zaa ok;have HC:=zaa hC;have HF:=zaa hF;clear ok;obtain ⟨k0,-⟩:=zcb hC;obtain ⟨c0_0,c0_1,c0_2,c0_3,c0_4,c0_5,c0_6,c0_7,c0_8,c0_9,-⟩:=zam hF;clear hC hF;go_enter_d Tryz.func102,Tryz.ntmps102;go_wp2_with fail;refine OK.o.mono ?_;rintro e w1 ⟨rfl,hb⟩;have HB:=zaa hb;clear k0 c0_0 c0_1 c0_2 c0_3 c0_4 c0_5 c0_6 c0_7 c0_8 c0_9;have C1:=zac HC.o hb (zah HC.o);have F1:=zac HF.o hb (zah HF.o);obtain ⟨c0_0,c0_1,c0_2,c0_3,c0_4,c0_5,c0_6,c0_7,c0_8,c0_9,f0_0,f0_1,f0_2,f0_3,f0_4,f0_5,f0_6,f0_7,f0_8,f0_9⟩:=zam F1;obtain ⟨k1,k2⟩:=zcb C1;have k3:=zcb (yaku hne C1 (.slice none 0 0) (.slice none 0 0) (.slice none 0 0) (.slice none 0 0) (.slice none 0 0) (.slice none 0 0) (.int .i64 0) (.int .i64 0) (.slice none 0 0) (.bool false));unfold zee at k3;obtain ⟨k3,k4⟩:=k3;clear hb C1 F1 HC HF;go_wp2;go_end0;exact ⟨rfl,w1,HB.o,rfl⟩
end Go.Proofs.YtahiphgmhndgaaaGreatDoor
