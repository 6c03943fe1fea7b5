import Derived.Test.YteampbddflhngabGreatJ32
import Derived.Deep.RegionHeld3

namespace Go.Proofs.YteampbddflhngabGreat
set_option maxRecDepth 100000
set_option maxHeartbeats 4000000
open Go.RowKit
variable {lo:Nat}
structure zl9 (lo:Nat) (w0 w:World) (own0 own:Nat->zay) (t8 g n wd mr mx:Nat) (ar:List Nat) (tbs:List Nat):Prop where
 low:w0.heap.size<=t8
 lowg:w0.heap.size<=g
 ne:t8≠g
 box:Box w t8 #[.slice (some ⟨g,0,none⟩) n n,.int .i64 0,.int .i64 0,.int .i64 0,.int .i64 (wd:Nat),.int .i64 (mr:Nat),.int .i64 (mx:Nat),.slice none 0 0] 157
 rows:w.ownsRow lo 113 1 (.slice (some ⟨g,0,none⟩) n n) n (pts tbs++List.replicate (n - tbs.length) (.pointer none))
 tries:∀ i (_:i < ar.length) (_:i < tbs.length),zcs lo w own (0,i,0) tbs[i] (zfp wd ar[i])
 mod:Mod lo zbs w0 own0 w own
def z7t:TypeId->zay->Prop:=fun _ _=>False
theorem zl9.step{w0 w w':World}{own0 own own':Nat->zay}{t8 g n wd mr mx:Nat}{ar tbs:List Nat}(h:zl9 lo w0 w own0 own t8 g n wd mr mx ar tbs)(m:Mod lo z7t w own w' own'):zl9 lo w0 w' own0 own' t8 g n wd mr mx ar tbs :=
 ⟨h.low,h.lowg,h.ne,h.box.mod m id,zd7 h.rows m (fun _=>id),fun i a b=>(h.tries i a b).mod m (fun _ _=>id),h.mod.trans (m.more fun _ _ q=>q.elim)⟩
theorem zl9.push{w0 w w':World}{own0 own:Nat->zay}{t8 g n wd mr mx tb:Nat}{ar tbs fp:List Nat}(h:zl9 lo w0 w own0 own t8 g n wd mr mx ar tbs)(hlo:lo<=w.heap.size)(hn:tbs.length < n)(ht:zar w.heap.size w' tb (zfp wd (ar.getD tbs.length 0)) fp)(hb:Below w.heap.size w w') :
  zl9 lo w0 (w'.setCell ⟨g,tbs.length,none⟩ (.pointer (some ⟨tb,0,none⟩))) own0 (ext own w.heap.size (0,tbs.length,0)) t8 g n wd mr mx ar (tbs++[tb]):=by
 have hm:=Mod.extNew (lo:=lo) (ok:=z7t) own (0,tbs.length,0) hb
 have h1:=h.step hm
 have hs:zao [g] w' (w'.setCell ⟨g,tbs.length,none⟩ (.pointer (some ⟨tb,0,none⟩))):=zao.set _ _ _ _
 obtain⟨cg,hcg⟩:=zd8 h1.rows rfl
 have hT:=OfT.box hcg
 refine⟨h.low,h.lowg,h.ne,h1.box.saveT hs hT (by decide),?_,fun i a b=>?_,h1.mod.newer hs fun b hb=>by simp at hb;rw[hb];exact h.lowg⟩
 ·have q:=zb7 h1.rows tbs.length (by simp[pts];omega) (.pointer (some ⟨tb,0,none⟩))
  have e:(pts tbs++List.replicate (n - tbs.length) (Value.pointer none)).set tbs.length (.pointer (some ⟨tb,0,none⟩))=pts (tbs++[tb])++List.replicate (n - (tbs++[tb]).length) (Value.pointer none):=by
   obtain⟨k,hk⟩:∃ k,n - tbs.length=k+1:=⟨n - tbs.length - 1,by omega⟩
   rw[List.set_append,if_neg (by simp[pts]),hk,List.replicate_succ]
   have e1:n - (tbs++[tb]).length=k:=by simp;omega
   rw[e1]
   simp[pts,pt]
  rw[e] at q
  exact q
 ·simp only[List.length_append,List.length_cons,List.length_nil] at b
  by_cases hi:i < tbs.length
  ·rw[List.getElem_append_left hi]
   exact(h1.tries i a hi).saveT hs hT (by decide)
  ·obtain rfl:i=tbs.length:=by omega
   have e2:(tbs++[tb])[tbs.length]=tb:=by simp
   rw[e2]
   have q:=ht.new own (0,tbs.length,0) hlo
   rw[show ar.getD tbs.length 0=ar[tbs.length] by simp[List.getD,a]] at q
   exact q.saveT hs hT (by decide)
theorem zl9.done{w0 w:World}{own0 own:Nat->zay}{t8 g wd mr mx:Nat}{ar tbs:List Nat}(h:zl9 lo w0 w own0 own t8 g ar.length wd mr mx ar tbs)(hl:lo<=w0.heap.size)(hn:tbs.length=ar.length)(hs:ar.length<=1000)(hw:wd<=1000/\mr<=1048576/\mx<=1048576):zc6 lo w own t8 ⟨ar.map (zfp wd),0,0,0,[]⟩ wd mr mx ⟨.slice (some ⟨g,0,none⟩) ar.length ar.length,tbs,.slice none 0 0,[]⟩:=by
 refine⟨Nat.le_trans hl h.low,h.box,?_,by simp[hn],fun p a b=>?_,World.ownsRow_nil _ _ _ _,rfl,fun p a=>by simp at a,⟨by simpa using hs,by simp,by simp,by simp⟩,hw⟩
 ·have q:=h.rows
  rw[hn,Nat.sub_self] at q
  simpa using q
 ·simp only[List.length_map] at a
  simp only[List.getElem_map]
  exact h.tries p a b
def zzn(lo:Nat)(w:World)(own:Nat->zay)(wd mr mx:Nat)(res:Option zbt)(e:Ending)(w':World):Prop:=match res with
 |none=>e=.returned (.tuple #[.agg #[.slice none 0 0,.int .i64 0,.int .i64 0,.int .i64 0],.bool false])/\∃ own',Mod lo zbs w own w' own'
 |some R=>∃ own' rb Q,e=.returned (.tuple #[.agg #[Q.rv,.int .i64 (R.count:Nat),.int .i64 (R.rounds:Nat),.int .i64 R.moves],.bool true])/\zc6 lo w' own' rb R wd mr mx Q/\Mod lo zbs w own w' own'
def zrh:Nat->zay:=fun _=>(0,0,7)
theorem run_any(w:World)(S:zre)(ps:List (Value × Value × Value))(av fv rv:Value)(mr mx fuel:Nat)(res:Option zbt)(h:zka lo w av fv rv S ps)(hlo:lo<=w.heap.size)(hok:zla S.arities.length S.rules)(har:S.arities.length<=1000)(harb:∀ a∈S.arities,a<=100000000)(hf3:∀ f∈S.facts,f.row.length=3)(hff:S.facts.length<=1000000)(hsm:S.width<=1000/\mr<=1048576/\mx<=1048576)(hr:z6s fuel S mr mx=some res) :
  Calls Tryz.prog 48 #[.agg #[.int .i64 (S.width:Nat),av,fv,rv],.int .i64 mr,.int .i64 mx] w fun e w'=>zzn lo w zrh S.width mr mx res e w':=by
 obtain⟨i0,hi,hz0,hzs,hzb⟩:=info_parts Tryz.infoTP
 have HS:Hid (zka lo w av fv rv S ps):=h
 have HLO:Hid (lo<=w.heap.size):=hlo
 have HOK:Hid (zla S.arities.length S.rules):=hok
 have HAB:Hid (∀ a∈S.arities,a<=100000000):=harb
 have HF3:Hid (∀ f∈S.facts,f.row.length=3):=hf3
 have HR:Hid (z6s fuel S mr mx=some res):=hr
 obtain⟨aoa,capa,hav⟩:=zab h.ari
 obtain⟨aof,capf,hfv⟩:=zab h.fac
 obtain⟨aor,capr,hrv⟩:=zab h.rul.own
 subst hav hfv hrv
 have hrl:=h.rul.few
 have hmk:=fun W0:World=>run_make (P:=Tryz.prog) (w:=W0) 103 113 i0 _ Tryz.underlying103 hi hz0 .i64 .i64 (S.arities.length:Int) (S.arities.length:Int) (by omega) (Int.le_refl _) (by rw[hzb];omega) (by omega)
 rw[hzs] at hmk
 clear h hlo hok harb hf3 hr
 go_enter Tryz.func48,Tryz.ntmps48
 go_upto_region 4 with fail
 have hB1:Below w.heap.size w ((((w.alloc (.cells #[.int .i64 (S.width:Nat),.slice aoa S.arities.length capa,.slice aof S.facts.length capf,.slice aor S.rules.length capr] 99)).alloc (.cells #[.slice none 0 0,.int .i64 0,.int .i64 0,.int .i64 0] 105)).alloc (.cells #[.slice (some ⟨w.heap.size+1+1+1,0,none⟩) S.arities.length S.arities.length,.int .i64 0,.int .i64 0,.int .i64 0,.int .i64 (S.width:Nat),.int .i64 (mr:Nat),.int .i64 (mx:Nat),.slice none 0 0] 157)).alloc (.cells (madeCells #[.pointer none] S.arities.length) 113)):=(by go_grown)
 have hb3:=(((Box.new w #[.int .i64 (S.width:Nat),.slice aoa S.arities.length capa,.slice aof S.facts.length capf,.slice aor S.rules.length capr] 99).up (.cells #[.slice none 0 0,.int .i64 0,.int .i64 0,.int .i64 0] 105)).up (.cells #[.slice (some ⟨w.heap.size+1+1+1,0,none⟩) S.arities.length S.arities.length,.int .i64 0,.int .i64 0,.int .i64 0,.int .i64 (S.width:Nat),.int .i64 (mr:Nat),.int .i64 (mx:Nat),.slice none 0 0] 157)).up (.cells (madeCells #[.pointer none] S.arities.length) 113)
 have hb6:=(((Box.new (w.alloc (.cells #[.int .i64 (S.width:Nat),.slice aoa S.arities.length capa,.slice aof S.facts.length capf,.slice aor S.rules.length capr] 99)) #[.slice none 0 0,.int .i64 0,.int .i64 0,.int .i64 0] 105).up (.cells #[.slice (some ⟨w.heap.size+1+1+1,0,none⟩) S.arities.length S.arities.length,.int .i64 0,.int .i64 0,.int .i64 0,.int .i64 (S.width:Nat),.int .i64 (mr:Nat),.int .i64 (mx:Nat),.slice none 0 0] 157)).up (.cells (madeCells #[.pointer none] S.arities.length) 113)).at' (b':=w.heap.size+1) (by simp)
 have hb8:=((Box.new ((w.alloc (.cells #[.int .i64 (S.width:Nat),.slice aoa S.arities.length capa,.slice aof S.facts.length capf,.slice aor S.rules.length capr] 99)).alloc (.cells #[.slice none 0 0,.int .i64 0,.int .i64 0,.int .i64 0] 105)) #[.slice (some ⟨w.heap.size+1+1+1,0,none⟩) S.arities.length S.arities.length,.int .i64 0,.int .i64 0,.int .i64 0,.int .i64 (S.width:Nat),.int .i64 (mr:Nat),.int .i64 (mx:Nat),.slice none 0 0] 157).up (.cells (madeCells #[.pointer none] S.arities.length) 113)).at' (b':=w.heap.size+1+1) (by simp)
 have hrow:=zhn (((w.alloc (.cells #[.int .i64 (S.width:Nat),.slice aoa S.arities.length capa,.slice aof S.facts.length capf,.slice aor S.rules.length capr] 99)).alloc (.cells #[.slice none 0 0,.int .i64 0,.int .i64 0,.int .i64 0] 105)).alloc (.cells #[.slice (some ⟨w.heap.size+1+1+1,0,none⟩) S.arities.length S.arities.length,.int .i64 0,.int .i64 0,.int .i64 0,.int .i64 (S.width:Nat),.int .i64 (mr:Nat),.int .i64 (mx:Nat),.slice none 0 0] 157)) S.arities.length 113 (.pointer none) (by unfold maxLen;omega)
 have hzz:(((w.alloc (.cells #[.int .i64 (S.width:Nat),.slice aoa S.arities.length capa,.slice aof S.facts.length capf,.slice aor S.rules.length capr] 99)).alloc (.cells #[.slice none 0 0,.int .i64 0,.int .i64 0,.int .i64 0] 105)).alloc (.cells #[.slice (some ⟨w.heap.size+1+1+1,0,none⟩) S.arities.length S.arities.length,.int .i64 0,.int .i64 0,.int .i64 0,.int .i64 (S.width:Nat),.int .i64 (mr:Nat),.int .i64 (mx:Nat),.slice none 0 0] 157)).heap.size=w.heap.size+1+1+1:=by simp
 rw[hzz] at hrow
 have HMK0:Hid (zl9 lo w ((((w.alloc (.cells #[.int .i64 (S.width:Nat),.slice aoa S.arities.length capa,.slice aof S.facts.length capf,.slice aor S.rules.length capr] 99)).alloc (.cells #[.slice none 0 0,.int .i64 0,.int .i64 0,.int .i64 0] 105)).alloc (.cells #[.slice (some ⟨w.heap.size+1+1+1,0,none⟩) S.arities.length S.arities.length,.int .i64 0,.int .i64 0,.int .i64 0,.int .i64 (S.width:Nat),.int .i64 (mr:Nat),.int .i64 (mx:Nat),.slice none 0 0] 157)).alloc (.cells (madeCells #[.pointer none] S.arities.length) 113)) zrh zrh (w.heap.size+1+1) (w.heap.size+1+1+1) S.arities.length S.width mr mx S.arities []):=⟨by omega,by omega,by omega,hb8,zbb hrow (by have:=HLO.out;omega),(fun i a b=>by simp at b),Mod.of zrh hB1⟩
 have HB3:Hid (Box ((((w.alloc (.cells #[.int .i64 (S.width:Nat),.slice aoa S.arities.length capa,.slice aof S.facts.length capf,.slice aor S.rules.length capr] 99)).alloc (.cells #[.slice none 0 0,.int .i64 0,.int .i64 0,.int .i64 0] 105)).alloc (.cells #[.slice (some ⟨w.heap.size+1+1+1,0,none⟩) S.arities.length S.arities.length,.int .i64 0,.int .i64 0,.int .i64 0,.int .i64 (S.width:Nat),.int .i64 (mr:Nat),.int .i64 (mx:Nat),.slice none 0 0] 157)).alloc (.cells (madeCells #[.pointer none] S.arities.length) 113)) w.heap.size #[.int .i64 (S.width:Nat),.slice aoa S.arities.length capa,.slice aof S.facts.length capf,.slice aor S.rules.length capr] 99):=hb3
 have HB6:Hid (Box ((((w.alloc (.cells #[.int .i64 (S.width:Nat),.slice aoa S.arities.length capa,.slice aof S.facts.length capf,.slice aor S.rules.length capr] 99)).alloc (.cells #[.slice none 0 0,.int .i64 0,.int .i64 0,.int .i64 0] 105)).alloc (.cells #[.slice (some ⟨w.heap.size+1+1+1,0,none⟩) S.arities.length S.arities.length,.int .i64 0,.int .i64 0,.int .i64 0,.int .i64 (S.width:Nat),.int .i64 (mr:Nat),.int .i64 (mx:Nat),.slice none 0 0] 157)).alloc (.cells (madeCells #[.pointer none] S.arities.length) 113)) (w.heap.size+1) #[.slice none 0 0,.int .i64 0,.int .i64 0,.int .i64 0] 105):=hb6
 clear hB1 hb3 hb6 hb8 hrow hzz hmk
 generalize ((((w.alloc (.cells #[.int .i64 (S.width:Nat),.slice aoa S.arities.length capa,.slice aof S.facts.length capf,.slice aor S.rules.length capr] 99)).alloc (.cells #[.slice none 0 0,.int .i64 0,.int .i64 0,.int .i64 0] 105)).alloc (.cells #[.slice (some ⟨w.heap.size+1+1+1,0,none⟩) S.arities.length S.arities.length,.int .i64 0,.int .i64 0,.int .i64 0,.int .i64 (S.width:Nat),.int .i64 (mr:Nat),.int .i64 (mx:Nat),.slice none 0 0] 157)).alloc (.cells (madeCells #[.pointer none] S.arities.length) 113))=w1 at *
 generalize hg:w.heap.size+1+1+1=g at *
 generalize h8:w.heap.size+1+1=t8 at *
 generalize h6:w.heap.size+1=t6 at *
 have h68:t6≠t8:=by omega
 have h36:w.heap.size < t6:=by omega
 have h8g:t8 < g:=by omega
 have h6g:t6 < g:=by omega
 clear hg h8 h6
 go_loopw [28] (fun v28 wr=>∃ m:Nat,m<=S.arities.length/\v28=.int .i64 m/\∃ ownk tbs,Hid (zl9 lo w wr zrh ownk t8 g S.arities.length S.width mr mx S.arities tbs)/\Hid (tbs.length=m)/\Hid (Box wr w.heap.size #[.int .i64 (S.width:Nat),.slice aoa S.arities.length capa,.slice aof S.facts.length capf,.slice aor S.rules.length capr] 99)/\Hid (Box wr t6 #[.slice none 0 0,.int .i64 0,.int .i64 0,.int .i64 0] 105)) (fun i _=>S.arities.length - (intOf i).toNat)
 case atStart=>exact⟨0,Nat.zero_le _,rfl,zrh,[],HMK0,rfl,HB3,HB6⟩
 case round =>
  clear HMK0 HB3 HB6
  obtain⟨m,hm,rfl,ownk,tbs,HMK,HTL,HB3,HB6⟩:=hrel
  have hszk:=HMK.out.mod.size
  have hlok:lo<=wr.heap.size:=Nat.le_trans HLO.out hszk
  by_cases hlt:m < S.arities.length
  ·have hari:wr.ownsRow lo 3 1 (.slice aoa S.arities.length capa) S.arities.length (S.arities.map ivN):=znq HS.out.ari HMK.out.mod (fun b _ q=>by
    rcases q with q|q
    ·exact q.2 rfl
    ·revert q;decide)
   obtain⟨ga,capa',hva,_,hga,hca⟩:=zas hari (by omega)
   simp only[Value.slice.injEq] at hva
   have hgg:=hva.1
   clear hva
   subst hgg
   have q0:=hca m (.int .i64 (S.arities[m]:Nat)) (by simp[hlt,ivN])
   have hab:S.arities[m]<=100000000:=HAB.out _ (List.getElem_mem _)
   obtain⟨hc8,hf8⟩:=HMK.out.box.rules
   have hl8:=HMK.out.box.lt
   obtain⟨hc3,hf3⟩:=HB3.out.rules
   have hl3:=HB3.out.lt
   have hmkk:(m:Int) < (S.arities.length:Int):=by omega
   have HN:Hid (∀ W0,Below wr.heap.size wr W0->Calls Tryz.prog 74 #[.int .i64 (S.width:Nat),.int .i64 (S.arities[m]:Nat)] W0 fun e w'=>∃ tb,e=.returned (.pointer (some ⟨tb,0,none⟩))/\w'.cell? ⟨t8,0,none⟩=some (.slice (some ⟨g,0,none⟩) S.arities.length S.arities.length)/\w'.cell? ⟨w.heap.size,0,none⟩=some (.int .i64 (S.width:Nat))/\w'.cell? ⟨g,m,none⟩=some (.pointer none)/\(∀ o,w'.frozen? ⟨g,o,none⟩=false)/\g < w'.heap.size/\Hid (Below wr.heap.size wr w'/\∃ own',zl9 lo w (w'.setCell ⟨g,m,none⟩ (.pointer (some ⟨tb,0,none⟩))) zrh own' t8 g S.arities.length S.width mr mx S.arities (tbs++[tb]))):=fun W0 hb=>by
    refine(zq9 W0 S.width S.arities[m] hsm.1 hab).mono ?_
    rintro e w' ⟨tb,fp,rfl,ht,hb2⟩
    have hB:=zae hb hb2 (Nat.le_refl _)
    have h0:=HMK.out.step (Mod.of ownk hb)
    have h1:=HMK.out.step (Mod.of ownk hB)
    have htl:=HTL.out
    have hp:=h0.push (tb:=tb) (fp:=fp) (Nat.le_trans hlok hb.size) (by omega) (by rw[htl,show S.arities.getD m 0=S.arities[m] by simp[List.getD,hlt]];exact ht) hb2
    rw[htl] at hp
    refine⟨tb,rfl,h1.box.rules.1 0,(hB.cell hl3).trans (hc3 0),?_,zby h1.rows,zdk h1.rows rfl,hB,_,hp⟩
    obtain⟨g',cap',hv',_,_,hcl⟩:=zas h1.rows (by omega)
    simp only[Value.slice.injEq,Option.some.injEq,Addr.mk.injEq,and_true] at hv'
    have e:=hv'.1
    subst e
    refine hcl m _ ?_
    rw[List.getElem?_append_right (by simp[pts,htl]),List.getElem?_replicate,if_pos (by simp only[pts,List.length_map];omega)]
   have x8:wr.cell? ⟨t8,0,none⟩=some (.slice (some ⟨g,0,none⟩) S.arities.length S.arities.length):=hc8 0
   have x3:wr.cell? ⟨w.heap.size,0,none⟩=some (.int .i64 (S.width:Nat)):=hc3 0
   clear hc8 hc3 hca hari
   generalize S.arities[m]=am at *
   go_upto_region 6 with fail
   go_region_held3 (fun w'=>w'.cell? ⟨t8,0,none⟩=some (.slice (some ⟨g,0,none⟩) S.arities.length S.arities.length)/\w'.cell? ⟨w.heap.size,0,none⟩=some (.int .i64 (S.width:Nat))) (first|go_keep|(go_simp;done)) (first|(go_at_call 74;refine(HN.out _ (by exact(zax (Below.refl _ _) 1))).mono ?_;rintro e w2 ⟨tb,rfl,y8,y3,yg,yf,yl,HX⟩))
   have hBX:=HX.out.1
   obtain⟨own',HR2⟩:=HX.out.2
   have HRK:Hid (zl9 lo w (w2.setCell ⟨g,m,none⟩ (.pointer (some ⟨tb,0,none⟩))) zrh own' t8 g S.arities.length S.width mr mx S.arities (tbs++[tb])):=HR2
   have HB32:Hid (Box (w2.setCell ⟨g,m,none⟩ (.pointer (some ⟨tb,0,none⟩))) w.heap.size _ 99):=(HB3.out.below hBX).set_ne (by omega) _ _
   have HB62:Hid (Box (w2.setCell ⟨g,m,none⟩ (.pointer (some ⟨tb,0,none⟩))) t6 _ 105):=(HB6.out.below hBX).set_ne (by omega) _ _
   clear hBX HR2 HX y8 y3 yg yf yl HN x8 x3 hf8 hl8 hf3 hl3 q0
   generalize w2.setCell ⟨g,m,none⟩ (.pointer (some ⟨tb,0,none⟩))=W3 at *
   go_wp2
   exact⟨⟨m+1,by omega,by go_num,own',tbs++[tb],HRK,show(tbs++[tb]).length=m+1 by simp[HTL.out],HB32,HB62⟩,by simp[intOf];omega⟩
  ·obtain rfl:m=S.arities.length:=by omega
   have HRO0:Hid (zc6 lo wr ownk t8 ⟨S.arities.map (zfp S.width),0,0,0,[]⟩ S.width mr mx ⟨.slice (some ⟨g,0,none⟩) S.arities.length S.arities.length,tbs,.slice none 0 0,[]⟩):=HMK.out.done HLO.out HTL.out har hsm
   have HMO0:Hid (Mod lo zbs w zrh wr ownk):=HMK.out.mod
   have HCL:Hid (Calls Tryz.prog 75 #[.pointer (some ⟨t8,0,none⟩)] wr fun e w'=>zmp lo wr ownk t8 ⟨S.arities.map (zfp S.width),0,0,0,[]⟩ S.width mr mx ⟨.slice (some ⟨g,0,none⟩) S.arities.length S.arities.length,tbs,.slice none 0 0,[]⟩ e w'):=clear_any wr ownk t8 _ S.width mr mx _ HRO0.out hlok
   clear HMK hlt hm
   go_upto_region 9 with (first|(go_at_call 75;refine HCL.out.mono ?_;rintro e w2 ⟨rfl,fv2,fvs2,hro,hmc⟩))
   have HB3c:Hid (Box w2 w.heap.size #[.int .i64 (S.width:Nat),.slice aoa S.arities.length capa,.slice aof S.facts.length capf,.slice aor S.rules.length capr] 99):=HB3.out.mod hmc (zfb (by decide) _)
   have HB6c:Hid (Box w2 t6 _ 105):=HB6.out.mod hmc (zfb (by decide) _)
   have HROc:Hid (zc6 lo w2 ownk t8 (zff S) S.width mr mx ⟨.slice (some ⟨g,0,none⟩) S.arities.length S.arities.length,tbs,fv2,fvs2⟩):=hro
   have HMOc:Hid (Mod lo zbs w zrh w2 ownk):=HMO0.out.trans (hmc.more fun _ _ q=>znp q)
   clear HB3 HB6 HRO0 HMO0 HCL hro hmc hszk hlok
   obtain⟨R1,b1,hF,hE⟩:∃ R1 b1,zjf mr S.facts (zff S)=some (R1,b1)/\(b1=false/\res=none∨b1=true/\∃ R2 b2,zf9 fuel S.width mr mx S.rules S.arities.length 0 R1=some (R2,b2)/\res=if b2 then some R2 else none):=by
    have hr:=HR.out
    unfold z6s at hr
    split at hr
    ·cases hr
    ·rename_i R1 hA
     simp at hr
     exact⟨R1,false,hA,Or.inl ⟨rfl,hr.symm⟩⟩
    ·rename_i R1 hA
     rw[Option.map_eq_some_iff] at hr
     obtain⟨⟨R2,b2⟩,h1,h2⟩:=hr
     exact⟨R1,true,hA,Or.inr ⟨rfl,R2,b2,h1,h2.symm⟩⟩
   have HE:Hid (b1=false/\res=none∨b1=true/\∃ R2 b2,zf9 fuel S.width mr mx S.rules S.arities.length 0 R1=some (R2,b2)/\res=if b2 then some R2 else none):=hE
   have HF0:Hid (zjf mr (S.facts.drop 0) (zff S)=some (R1,b1)):=hF
   clear hE hF
   obtain⟨hc3,hf3⟩:=HB3c.out.rules
   have hl3:=HB3c.out.lt
   go_upto_region 10 with fail
   clear hc3 hf3 hl3
   generalize hw5:w2=w5 at *
   clear hw5
   have HL0:Hid ((zff S).rows.length=S.arities.length):=show(zff S).rows.length=S.arities.length by simp[zff,ze2]
   go_loopw [47] (fun v47 wr=>∃ m:Nat,m<=S.facts.length/\v47=.int .i64 m/\∃ Rk ownk fvv fvk,Hid (zc6 lo wr ownk t8 Rk S.width mr mx ⟨.slice (some ⟨g,0,none⟩) S.arities.length S.arities.length,tbs,fvv,fvk⟩)/\Hid (Mod lo zbs w zrh wr ownk)/\Hid (Rk.rows.length=S.arities.length)/\Hid (Box wr w.heap.size #[.int .i64 (S.width:Nat),.slice aoa S.arities.length capa,.slice aof S.facts.length capf,.slice aor S.rules.length capr] 99)/\Hid (Box wr t6 #[.slice none 0 0,.int .i64 0,.int .i64 0,.int .i64 0] 105)/\Hid (zjf mr (S.facts.drop m) Rk=some (R1,b1))) (fun i _=>S.facts.length - (intOf i).toNat)
   case atStart=>exact⟨0,Nat.zero_le _,rfl,zff S,ownk,fv2,fvs2,HROc,HMOc,HL0,HB3c,HB6c,HF0⟩
   case round =>
    clear HROc HMOc HL0 HB3c HB6c HF0
    obtain⟨m,hm,rfl,Rk,ownj,fvv,fvk,HRO,HMO,HRL,HB3,HB6,HFR⟩:=hrel
    have hszk:=HMO.out.size
    have hlok:lo<=wr.heap.size:=Nat.le_trans HLO.out hszk
    by_cases hlt:m < S.facts.length
    ·have hfac:wr.ownsRow lo 153 4 (.slice aof S.facts.length capf) S.facts.length (zct S.facts):=zd7 HS.out.fac HMO.out (zee (by decide) (by decide))
     obtain⟨gf,capf',hva,_,hgf,hcf⟩:=zas hfac (by omega)
     simp only[Value.slice.injEq] at hva
     have hgg:=hva.1
     clear hva
     subst hgg
     obtain⟨k0,k1,k2,k3⟩:=zlx S.facts m hlt
     have q0:=hcf _ _ k0
     have q1:=hcf _ _ k1
     have q2:=hcf _ _ k2
     have q3:=hcf _ _ k3
     have hfr:=HFR.out
     rw[List.drop_eq_getElem_cons hlt] at hfr
     unfold zjf at hfr
     have h3:=HF3.out _ (List.getElem_mem hlt)
     obtain⟨x,y,z,hxyz⟩:∃ x y z,S.facts[m].row=[x,y,z]:=by
      match hrow:S.facts[m].row,h3 with
      |[x,y,z],_=>exact⟨x,y,z,rfl⟩
     rw[hxyz] at q1 q2 q3 hfr
     simp only[List.getD_cons_zero,List.getD_cons_succ] at q1 q2 q3
     have hmkk:(m:Int) < (S.facts.length:Int):=by omega
     clear h3 k0 k1 k2 k3 hcf hfac hxyz
     generalize S.facts[m].pred=p at *
     cases ha:zxg mr Rk p [x,y,z] with
     |none=>rw[ha] at hfr;cases hfr
     |some ar =>
      obtain⟨R3,b3⟩:=ar
      rw[ha] at hfr
      have HL3:Hid (R3.rows.length=S.arities.length):=(zqi ha).trans HRL.out
      have HAD:Hid (∀ W0,Below wr.heap.size wr W0->Calls Tryz.prog 76 #[.pointer (some ⟨t8,0,none⟩),.int .i64 (p:Nat),.agg #[.int .i64 (x:Nat),.int .i64 (y:Nat),.int .i64 (z:Nat)]] W0 fun e w'=>zt6 lo W0 ownj t8 p R3 b3 S.width mr mx ⟨.slice (some ⟨g,0,none⟩) S.arities.length S.arities.length,tbs,fvv,fvk⟩ e w'):=fun W0 hb=>zw3 W0 ownj t8 Rk R3 S.width mr mx _ p x y z b3 (HRO.out.below hb) (Nat.le_trans hlok hb.size) ha
      have hgr:Below wr.heap.size wr (wr.alloc (.cells #[.int .i64 (p:Nat),.int .i64 (x:Nat),.int .i64 (y:Nat),.int .i64 (z:Nat)] 153)):=(by go_grown)
      have HGR:Hid (Below wr.heap.size wr (wr.alloc (.cells #[.int .i64 (p:Nat),.int .i64 (x:Nat),.int .i64 (y:Nat),.int .i64 (z:Nat)] 153))):=hgr
      have HKP:Hid (∀ w4 own4,Mod lo (zmc p) (wr.alloc (.cells #[.int .i64 (p:Nat),.int .i64 (x:Nat),.int .i64 (y:Nat),.int .i64 (z:Nat)] 153)) ownj w4 own4->Mod lo zbs w zrh w4 own4/\Box w4 w.heap.size #[.int .i64 (S.width:Nat),.slice aoa S.arities.length capa,.slice (some ⟨gf,0,none⟩) S.facts.length capf,.slice aor S.rules.length capr] 99/\Box w4 t6 #[.slice none 0 0,.int .i64 0,.int .i64 0,.int .i64 0] 105):=fun w4 own4 hm4=>by
       have hm5:Mod lo (zhz p) wr ownj w4 own4:=(Mod.of ownj HGR.out).trans (hm4.more fun _ _ q=>Or.inl q)
       exact⟨HMO.out.trans (hm5.more fun _ _ q=>zj0 q),HB3.out.mod hm5 (zg2 (by decide) (by decide) _),HB6.out.mod hm5 (zg2 (by decide) (by decide) _)⟩
      clear ha hgr
      cases b3 with
      |false =>
       simp only[Option.some.injEq,Prod.mk.injEq] at hfr
       have HQ:Hid (false=b1):=hfr.2
       clear hfr
       go_wp2_with (first|(go_at_call 76;refine(HAD.out _ HGR.out).mono ?_;rintro e w4 ⟨rfl,own4,fvs4,hro4,hm4⟩;obtain⟨hmm4,_,hb64⟩:=HKP.out _ _ hm4;obtain⟨hc6,hf6⟩:=hb64.rules;have hl6:=hb64.lt))
       have hres:res=none:=by
        have hE:=HE.out
        rw[← HQ.out] at hE
        rcases hE with ⟨_,hE⟩|⟨hx,_⟩
        ·exact hE
        ·cases hx
       have HMF:Hid (Mod lo zbs w zrh _ own4):=hmm4.newer (zao.sets t6 [.slice none 0 0,.int .i64 0,.int .i64 0,.int .i64 0] 0 w4) (fun b hb=>by simp at hb;omega)
       refine bodyPost_ret (v:=.tuple #[.agg #[.slice none 0 0,.int .i64 0,.int .i64 0,.int .i64 0],.bool false]) (by simp[results,Tryz.results48,go_sem,hc6]) rfl ?_
       rw[hres]
       exact⟨rfl,own4,HMF.out⟩
      |true =>
       have HQ:Hid (zjf mr (S.facts.drop (m+1)) R3=some (R1,b1)):=hfr
       clear hfr
       go_wp2_with (first|(go_at_call 76;refine(HAD.out _ HGR.out).mono ?_;rintro e w4 ⟨rfl,own4,fvs4,hro4,hm4⟩))
       obtain⟨hmm4,hb34,hb64⟩:=HKP.out _ _ hm4
       exact⟨⟨m+1,by omega,by go_num,R3,own4,fvv,fvs4,hro4,hmm4,HL3,hb34,hb64,HQ⟩,by simp[intOf];omega⟩
    ·obtain rfl:m=S.facts.length:=by omega
     have hfr:=HFR.out
     rw[List.drop_length] at hfr
     simp only[zjf,Option.some.injEq,Prod.mk.injEq] at hfr
     obtain⟨R2,b2,hst,hres⟩:∃ R2 b2,zf9 fuel S.width mr mx S.rules S.arities.length 0 Rk=some (R2,b2)/\res=if b2 then some R2 else none:=by
      have hE:=HE.out
      rw[← hfr.2,← hfr.1] at hE
      rcases hE with ⟨hx,_⟩|⟨_,hE⟩
      ·cases hx
      ·exact hE
     have HST0:Hid (zf9 fuel S.width mr mx S.rules (S.arities.length - 0) 0 Rk=some (R2,b2)):=hst
     have HRES:Hid (res=if b2 then some R2 else none):=hres
     clear hfr hst hres HFR HE hlt hm hszk hlok
     obtain⟨hc3,hf3⟩:=HB3.out.rules
     have hl3:=HB3.out.lt
     go_upto_region 16 with fail
     clear hc3 hf3 hl3
     generalize hw6:wr=w6 at *
     clear hw6
     go_loopw [62] (fun v62 wr=>∃ m:Nat,m<=S.arities.length/\v62=.int .i64 m/\∃ Rk ownk fvv fvk,Hid (zc6 lo wr ownk t8 Rk S.width mr mx ⟨.slice (some ⟨g,0,none⟩) S.arities.length S.arities.length,tbs,fvv,fvk⟩)/\Hid (Mod lo zbs w zrh wr ownk)/\Hid (Rk.rows.length=S.arities.length)/\Hid (Box wr w.heap.size #[.int .i64 (S.width:Nat),.slice aoa S.arities.length capa,.slice aof S.facts.length capf,.slice aor S.rules.length capr] 99)/\Hid (Box wr t6 #[.slice none 0 0,.int .i64 0,.int .i64 0,.int .i64 0] 105)/\Hid (zf9 fuel S.width mr mx S.rules (S.arities.length - m) m Rk=some (R2,b2))) (fun i _=>S.arities.length - (intOf i).toNat)
     case atStart=>exact⟨0,Nat.zero_le _,rfl,Rk,ownj,fvv,fvk,HRO,HMO,HRL,HB3,HB6,HST0⟩
     case round =>
      clear HRO HMO HRL HB3 HB6 HST0
      obtain⟨m,hm,rfl,Ri,owni,fvi,fvj,HRO,HMO,HRL,HB3,HB6,HST⟩:=hrel
      have hszk:=HMO.out.size
      have hlok:lo<=wr.heap.size:=Nat.le_trans HLO.out hszk
      by_cases hlt:m < S.arities.length
      ·have hs1:=HST.out
       rw[show S.arities.length - m=(S.arities.length - (m+1))+1 from by omega] at hs1
       unfold zf9 at hs1
       cases hsr:zk6 fuel S.width mr mx S.rules Ri m with
       |none=>rw[hsr] at hs1;cases hs1
       |some ar =>
        obtain⟨R3,b3⟩:=ar
        rw[hsr] at hs1
        have HRU:zcr lo wr (.slice aor S.rules.length capr) S.rules ps:=HS.out.rul.mod HMO.out (zee (by decide) (by decide)) (zee (by decide) (by decide)) (zee (by decide) (by decide))
        have HSA:Hid (Calls Tryz.prog 77 #[.pointer (some ⟨t8,0,none⟩),.slice aor S.rules.length capr,.int .i64 (m:Nat)] wr fun e w'=>zrl lo wr owni t8 Ri R3 S.width mr mx ⟨.slice (some ⟨g,0,none⟩) S.arities.length S.arities.length,tbs,fvi,fvj⟩ b3 e w'):=zvy wr owni t8 m Ri R3 _ S.rules ps S.width mr mx _ fuel b3 HRO.out HRU hlok (by rw[HRL.out];exact HOK.out) hsr
        have HKP:Hid (∀ w4 own4,Mod lo zbs wr owni w4 own4->Mod lo zbs w zrh w4 own4/\Box w4 w.heap.size #[.int .i64 (S.width:Nat),.slice aoa S.arities.length capa,.slice aof S.facts.length capf,.slice aor S.rules.length capr] 99/\Box w4 t6 #[.slice none 0 0,.int .i64 0,.int .i64 0,.int .i64 0] 105):=fun w4 own4 hm4=>⟨HMO.out.trans hm4,HB3.out.mod hm4 (zee (by decide) (by decide) _),HB6.out.mod hm4 (zee (by decide) (by decide) _)⟩
        obtain⟨hc3,hf3⟩:=HB3.out.rules
        have hl3:=HB3.out.lt
        have hmkk:(m:Int) < (S.arities.length:Int):=by omega
        clear hsr HRU
        cases b3 with
        |false =>
         simp only[Option.some.injEq,Prod.mk.injEq] at hs1
         have HQ:Hid (false=b2):=hs1.2
         clear hs1
         go_wp2_with (first|(go_at_call 77;refine HSA.out.mono ?_;rintro e w4 ⟨rfl,own4,fv4,fvs4,hro4,hrl4,hm4⟩;obtain⟨hmm4,_,hb64⟩:=HKP.out _ _ hm4;obtain⟨hc6,hf6⟩:=hb64.rules;have hl6:=hb64.lt))
         have hres:res=none:=by rw[HRES.out,← HQ.out];rfl
         have HMF:Hid (Mod lo zbs w zrh _ own4):=hmm4.newer (zao.sets t6 [.slice none 0 0,.int .i64 0,.int .i64 0,.int .i64 0] 0 w4) (fun b hb=>by simp at hb;omega)
         refine bodyPost_ret (v:=.tuple #[.agg #[.slice none 0 0,.int .i64 0,.int .i64 0,.int .i64 0],.bool false]) (by simp[results,Tryz.results48,go_sem,hc6]) rfl ?_
         rw[hres]
         exact⟨rfl,own4,HMF.out⟩
        |true =>
         have HQ:Hid (zf9 fuel S.width mr mx S.rules (S.arities.length - (m+1)) (m+1) R3=some (R2,b2)):=hs1
         clear hs1
         go_wp2_with (first|(go_at_call 77;refine HSA.out.mono ?_;rintro e w4 ⟨rfl,own4,fv4,fvs4,hro4,hrl4,hm4⟩))
         obtain⟨hmm4,hb34,hb64⟩:=HKP.out _ _ hm4
         exact⟨⟨m+1,by omega,by go_num,R3,own4,fv4,fvs4,hro4,hmm4,hrl4.trans HRL.out,hb34,hb64,HQ⟩,by simp[intOf];omega⟩
      ·obtain rfl:m=S.arities.length:=by omega
       have hs1:=HST.out
       rw[Nat.sub_self] at hs1
       simp only[zf9,Option.some.injEq,Prod.mk.injEq] at hs1
       have hres:res=some Ri:=by rw[HRES.out,← hs1.2,← hs1.1];rfl
       have HRS:Hid (res=some Ri):=hres
       clear hs1 hres HRES
       obtain⟨hl8,hf8,d0,d1,d2,d3,d4,d5,d6,d7⟩:=HRO.out.at
       obtain⟨hc6,hf6⟩:=HB6.out.rules
       have hl6:=HB6.out.lt
       dsimp only at d0
       clear d4 d5 d6 d7
       have h86:t8≠t6:=fun e=>h68 e.symm
       go_wp2
       have hsv:=zao.sets t6 [.slice (some ⟨g,0,none⟩) S.arities.length S.arities.length,.int .i64 (Ri.count:Nat),.int .i64 (Ri.rounds:Nat),.int .i64 Ri.moves] 0 wr
       have hmO:Mod lo (zev [105]) wr owni _ owni:=Mod.ofSave owni hsv (fun b hb=>by
        simp at hb
        subst hb
        exact⟨by have:=HLO.out;omega,hl6,_,_,HB6.out,List.mem_singleton.2 rfl⟩)
       have HRF:Hid (zc6 lo _ owni t8 Ri S.width mr mx ⟨.slice (some ⟨g,0,none⟩) S.arities.length S.arities.length,tbs,fvi,fvj⟩):=HRO.out.mod hmO (zfb (by decide)) (zfb (by decide)) (zfb (by decide)) (fun _=>zfb (by decide) _) (fun _ t ht q=>by rw[List.mem_singleton.1 q] at ht;exact ht (by decide))
       have HMF:Hid (Mod lo zbs w zrh _ owni):=HMO.out.newer hsv (fun b hb=>by simp at hb;omega)
       clear hsv hmO
       refine bodyPost_ret (v:=.tuple #[.agg #[.slice (some ⟨g,0,none⟩) S.arities.length S.arities.length,.int .i64 (Ri.count:Nat),.int .i64 (Ri.rounds:Nat),.int .i64 Ri.moves],.bool true]) (by simp[results,Tryz.results48,go_sem,hc6]) rfl ?_
       rw[HRS.out]
       exact⟨owni,t8,⟨.slice (some ⟨g,0,none⟩) S.arities.length S.arities.length,tbs,fvi,fvj⟩,rfl,HRF.out,HMF.out⟩
set_option maxHeartbeats 2000000
theorem z6v(w:World)(rb:Nat)(pv nv rv:Value)(R:zbt)(h:Box w rb #[pv,nv,rv,.int .i64 (R.count:Nat),.int .i64 (R.rounds:Nat),.int .i64 R.moves] 109) :
  Calls Tryz.prog 36 #[.pointer (some ⟨rb,0,none⟩)] w fun e w'=>e=.returned (.tuple #[.int .i64 (R.count:Nat),.int .i64 (R.rounds:Nat),.int .i64 R.moves])/\∃ m,w'=w.drewN m:=by
 obtain⟨hc,hf⟩:=h.rules
 have hl:=h.lt
 have d3:=hc 3
 have d4:=hc 4
 have d5:=hc 5
 clear h hc
 go_enter Tryz.func36,Tryz.ntmps36
 go_upto_region 1 with fail
 go_quiet (fail)
 go_wp2
 go_ret3
 exact⟨rfl,_,rfl⟩
end Go.Proofs.YteampbddflhngabGreat
