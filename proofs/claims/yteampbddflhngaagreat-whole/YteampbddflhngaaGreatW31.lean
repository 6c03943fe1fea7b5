import Derived.Test.YteampbddflhngaaGreatW30
import Derived.Deep.RegionHeld3
import Derived.Test.YteampbddflhngaaGreatW26

namespace Go.Proofs.YteampbddflhngaaGreat
set_option maxRecDepth 100000
set_option maxHeartbeats 4000000
open Go.RowKit
variable {lo:Nat}
variable {w0 w:World}{own0:Nat->zay}{t8 wd mr mx:Nat}{tbs:List Nat}
structure zm0 (lo:Nat) (w0 w:World) (own0 own:Nat->zay) (t8 g n wd mr mx:Nat) (ar:List Nat) (tbs:List Nat):Prop where
 low:w0.heap.size<=t8
 lowg:w0.heap.size<=g
 ne:t8≠g
 box:Box w t8 #[.slice (some ⟨g,0,none⟩) n n,.int .i64 0,.int .i64 0,.int .i64 0,.int .i64 (wd:Nat),.int .i64 (mr:Nat),.int .i64 (mx:Nat),.slice none 0 0] 214
 rows:w.ownsRow lo 162 1 (.slice (some ⟨g,0,none⟩) n n) n (pts tbs++List.replicate (n - tbs.length) (.pointer none))
 tries:∀ i (_:i < ar.length) (_:i < tbs.length),zcw lo w own (0,i,0) tbs[i] (zfv wd ar[i])
 mod:Mod lo zb1 w0 own0 w own
def z98:TypeId->zay->Prop:=fun _ _=>False
theorem zm0.step{w':World}{own own':Nat->zay}{g n:Nat}{ar:List Nat}(h:zm0 lo w0 w own0 own t8 g n wd mr mx ar tbs)(m:Mod lo z98 w own w' own'):zm0 lo w0 w' own0 own' t8 g n wd mr mx ar tbs :=
 ⟨h.low,h.lowg,h.ne,h.box.mod m id,zee h.rows m (fun _=>id),fun i a b=>(h.tries i a b).mod m (fun _ _=>id),h.mod.trans (m.more fun _ _ q=>q.elim)⟩
theorem zm0.push{w':World}{own:Nat->zay}{g n tb:Nat}{ar fp:List Nat}(h:zm0 lo w0 w own0 own t8 g n wd mr mx ar tbs)(hlo:lo<=w.heap.size)(hn:tbs.length < n)(ht:zat w.heap.size w' tb (zfv wd (ar.getD tbs.length 0)) fp)(hb:Below w.heap.size w w') :
  zm0 lo w0 (w'.setCell ⟨g,tbs.length,none⟩ (.pointer (some ⟨tb,0,none⟩))) own0 (ext own w.heap.size (0,tbs.length,0)) t8 g n wd mr mx ar (tbs++[tb]):=by
 have hm:=Mod.extNew (lo:=lo) (ok:=z98) own (0,tbs.length,0) hb
 have h1:=h.step hm
 have hs:zas [g] w' (w'.setCell ⟨g,tbs.length,none⟩ (.pointer (some ⟨tb,0,none⟩))):=zas.set _ _ _ _
 obtain⟨cg,hcg⟩:=zef h1.rows rfl
 have hT:=OfT.box hcg
 refine⟨h.low,h.lowg,h.ne,h1.box.saveT hs hT (by decide),?_,fun i a b=>?_,h1.mod.newer hs fun b hb=>by simp at hb;rw[hb];exact h.lowg⟩
 ·have q:=zb4 h1.rows tbs.length (by simp[pts];omega) (.pointer (some ⟨tb,0,none⟩))
  have e:(pts tbs++List.replicate (n - tbs.length) (Value.pointer none)).set tbs.length (.pointer (some ⟨tb,0,none⟩))=pts (tbs++[tb])++List.replicate (n - (tbs++[tb]).length) (Value.pointer none):=by
   obtain⟨k,hk⟩:∃ k,n - tbs.length=k+1:=⟨n - tbs.length - 1,by omega⟩
   rw[List.set_append,if_neg (by simp[pts]),hk,ucc]
   have e1:n - (tbs++[tb]).length=k:=by simp;omega
   rw[e1]
   simp[pts,pt]
  rw[e] at q
  exact q
 ·simp only[uar,ua7,uch] at b
  by_cases hi:i < tbs.length
  ·rw[uan hi]
   exact(h1.tries i a hi).saveT hs hT (by decide)
  ·obtain rfl:i=tbs.length:=by omega
   have e2:(tbs++[tb])[tbs.length]=tb:=by simp
   rw[e2]
   have q:=ht.new own (0,tbs.length,0) hlo
   rw[show ar.getD tbs.length 0=ar[tbs.length] by simp[List.getD,a]] at q
   exact q.saveT hs hT (by decide)
theorem zm0.done{own:Nat->zay}{g:Nat}{ar:List Nat}(h:zm0 lo w0 w own0 own t8 g ar.length wd mr mx ar tbs)(hl:lo<=w0.heap.size)(hn:tbs.length=ar.length)(hs:ar.length<=1000)(hw:wd<=1000/\mr<=1048576/\mx<=1048576):zdc lo w own t8 ⟨ar.map (zfv wd),0,0,0,[]⟩ wd mr mx ⟨.slice (some ⟨g,0,none⟩) ar.length ar.length,tbs,.slice none 0 0,[]⟩:=by
 refine⟨uap hl h.low,h.box,?_,by simp[hn],fun p a b=>?_,World.ownsRow_nil _ _ _ _,rfl,fun p a=>by simp at a,⟨by simpa using hs,by simp,by simp,by simp⟩,hw⟩
 ·have q:=h.rows
  rw[hn,ubs] at q
  simpa using q
 ·simp only[ua0] at a
  simp only[uaw]
  exact h.tries p a b
def z01(lo:Nat)(w:World)(own:Nat->zay)(wd mr mx:Nat)(res:Option zbg)(e:Ending)(w':World):Prop:=match res with
 |none=>e=.returned (.tuple #[.agg #[.slice none 0 0,.int .i64 0,.int .i64 0,.int .i64 0],.bool false])/\∃ own',Mod lo zb1 w own w' own'
 |some R=>∃ own' rb Q,e=.returned (.tuple #[.agg #[Q.rv,.int .i64 (R.count:Nat),.int .i64 (R.qw:Nat),.int .i64 R.jf],.bool true])/\zdc lo w' own' rb R wd mr mx Q/\Mod lo zb1 w own w' own'
def zse:Nat->zay:=fun _=>(0,0,7)
theorem run_any(w:World)(S:zsb)(ps:List (Value × Value × Value))(av fv rv:Value)(mr mx fuel:Nat)(res:Option zbg)(h:zkt lo w av fv rv S ps)(hlo:lo<=w.heap.size)(hok:zlv S.qh.length S.rules)(har:S.qh.length<=1000)(harb:∀ a∈S.qh,a<=100000000)(hf3:∀ f∈S.facts,f.row.length=3)(hff:S.facts.length<=1000000)(hsm:S.qg<=1000/\mr<=1048576/\mx<=1048576)(hr:z8x fuel S mr mx=some res) :
  Calls Tryz.prog 74 #[.agg #[.int .i64 (S.qg:Nat),av,fv,rv],.int .i64 mr,.int .i64 mx] w fun e w'=>z01 lo w zse S.qg mr mx res e w':=by
 obtain⟨i0,hi,hz0,hzs,hzb⟩:=info_parts Tryz.infoTP
 have HS:Hid (zkt lo w av fv rv S ps):=h
 have HLO:Hid (lo<=w.heap.size):=hlo
 have HOK:Hid (zlv S.qh.length S.rules):=hok
 have HAB:Hid (∀ a∈S.qh,a<=100000000):=harb
 have HF3:Hid (∀ f∈S.facts,f.row.length=3):=hf3
 have HR:Hid (z8x fuel S mr mx=some res):=hr
 obtain⟨aoa,capa,hav⟩:=zac h.ari
 obtain⟨aof,capf,hfv⟩:=zac h.fac
 obtain⟨aor,capr,hrv⟩:=zac h.rul.own
 subst hav hfv hrv
 have hrl:=h.rul.few
 have hmk:=fun W0:World=>run_make (P:=Tryz.prog) (w:=W0) 150 162 i0 _ Tryz.underlying150 hi hz0 .i64 .i64 (S.qh.length:Int) (S.qh.length:Int) (by omega) (Int.le_refl _) (by rw[hzb];omega) (by omega)
 rw[hzs] at hmk
 clear h hlo hok harb hf3 hr
 go_enter Tryz.func74,Tryz.ntmps74
 go_upto_region 4 with fail
 have hB1:Below w.heap.size w ((((w.alloc (.cells #[.int .i64 (S.qg:Nat),.slice aoa S.qh.length capa,.slice aof S.facts.length capf,.slice aor S.rules.length capr] 146)).alloc (.cells #[.slice none 0 0,.int .i64 0,.int .i64 0,.int .i64 0] 152)).alloc (.cells #[.slice (some ⟨w.heap.size+1+1+1,0,none⟩) S.qh.length S.qh.length,.int .i64 0,.int .i64 0,.int .i64 0,.int .i64 (S.qg:Nat),.int .i64 (mr:Nat),.int .i64 (mx:Nat),.slice none 0 0] 214)).alloc (.cells (madeCells #[.pointer none] S.qh.length) 162)):=(by go_grown)
 have hb3:=(((Box.new w #[.int .i64 (S.qg:Nat),.slice aoa S.qh.length capa,.slice aof S.facts.length capf,.slice aor S.rules.length capr] 146).up (.cells #[.slice none 0 0,.int .i64 0,.int .i64 0,.int .i64 0] 152)).up (.cells #[.slice (some ⟨w.heap.size+1+1+1,0,none⟩) S.qh.length S.qh.length,.int .i64 0,.int .i64 0,.int .i64 0,.int .i64 (S.qg:Nat),.int .i64 (mr:Nat),.int .i64 (mx:Nat),.slice none 0 0] 214)).up (.cells (madeCells #[.pointer none] S.qh.length) 162)
 have hb6:=(((Box.new (w.alloc (.cells #[.int .i64 (S.qg:Nat),.slice aoa S.qh.length capa,.slice aof S.facts.length capf,.slice aor S.rules.length capr] 146)) #[.slice none 0 0,.int .i64 0,.int .i64 0,.int .i64 0] 152).up (.cells #[.slice (some ⟨w.heap.size+1+1+1,0,none⟩) S.qh.length S.qh.length,.int .i64 0,.int .i64 0,.int .i64 0,.int .i64 (S.qg:Nat),.int .i64 (mr:Nat),.int .i64 (mx:Nat),.slice none 0 0] 214)).up (.cells (madeCells #[.pointer none] S.qh.length) 162)).at' (b':=w.heap.size+1) (by simp)
 have hb8:=((Box.new ((w.alloc (.cells #[.int .i64 (S.qg:Nat),.slice aoa S.qh.length capa,.slice aof S.facts.length capf,.slice aor S.rules.length capr] 146)).alloc (.cells #[.slice none 0 0,.int .i64 0,.int .i64 0,.int .i64 0] 152)) #[.slice (some ⟨w.heap.size+1+1+1,0,none⟩) S.qh.length S.qh.length,.int .i64 0,.int .i64 0,.int .i64 0,.int .i64 (S.qg:Nat),.int .i64 (mr:Nat),.int .i64 (mx:Nat),.slice none 0 0] 214).up (.cells (madeCells #[.pointer none] S.qh.length) 162)).at' (b':=w.heap.size+1+1) (by simp)
 have hrow:=zhv (((w.alloc (.cells #[.int .i64 (S.qg:Nat),.slice aoa S.qh.length capa,.slice aof S.facts.length capf,.slice aor S.rules.length capr] 146)).alloc (.cells #[.slice none 0 0,.int .i64 0,.int .i64 0,.int .i64 0] 152)).alloc (.cells #[.slice (some ⟨w.heap.size+1+1+1,0,none⟩) S.qh.length S.qh.length,.int .i64 0,.int .i64 0,.int .i64 0,.int .i64 (S.qg:Nat),.int .i64 (mr:Nat),.int .i64 (mx:Nat),.slice none 0 0] 214)) S.qh.length 162 (.pointer none) (by unfold maxLen;omega)
 have hzz:(((w.alloc (.cells #[.int .i64 (S.qg:Nat),.slice aoa S.qh.length capa,.slice aof S.facts.length capf,.slice aor S.rules.length capr] 146)).alloc (.cells #[.slice none 0 0,.int .i64 0,.int .i64 0,.int .i64 0] 152)).alloc (.cells #[.slice (some ⟨w.heap.size+1+1+1,0,none⟩) S.qh.length S.qh.length,.int .i64 0,.int .i64 0,.int .i64 0,.int .i64 (S.qg:Nat),.int .i64 (mr:Nat),.int .i64 (mx:Nat),.slice none 0 0] 214)).heap.size=w.heap.size+1+1+1:=by simp
 rw[hzz] at hrow
 have HMK0:Hid (zm0 lo w ((((w.alloc (.cells #[.int .i64 (S.qg:Nat),.slice aoa S.qh.length capa,.slice aof S.facts.length capf,.slice aor S.rules.length capr] 146)).alloc (.cells #[.slice none 0 0,.int .i64 0,.int .i64 0,.int .i64 0] 152)).alloc (.cells #[.slice (some ⟨w.heap.size+1+1+1,0,none⟩) S.qh.length S.qh.length,.int .i64 0,.int .i64 0,.int .i64 0,.int .i64 (S.qg:Nat),.int .i64 (mr:Nat),.int .i64 (mx:Nat),.slice none 0 0] 214)).alloc (.cells (madeCells #[.pointer none] S.qh.length) 162)) zse zse (w.heap.size+1+1) (w.heap.size+1+1+1) S.qh.length S.qg mr mx S.qh []):=⟨by omega,by omega,by omega,hb8,zbf hrow (by have:=HLO.out;omega),(fun i a b=>by simp at b),Mod.of zse hB1⟩
 have HB3:Hid (Box ((((w.alloc (.cells #[.int .i64 (S.qg:Nat),.slice aoa S.qh.length capa,.slice aof S.facts.length capf,.slice aor S.rules.length capr] 146)).alloc (.cells #[.slice none 0 0,.int .i64 0,.int .i64 0,.int .i64 0] 152)).alloc (.cells #[.slice (some ⟨w.heap.size+1+1+1,0,none⟩) S.qh.length S.qh.length,.int .i64 0,.int .i64 0,.int .i64 0,.int .i64 (S.qg:Nat),.int .i64 (mr:Nat),.int .i64 (mx:Nat),.slice none 0 0] 214)).alloc (.cells (madeCells #[.pointer none] S.qh.length) 162)) w.heap.size #[.int .i64 (S.qg:Nat),.slice aoa S.qh.length capa,.slice aof S.facts.length capf,.slice aor S.rules.length capr] 146):=hb3
 have HB6:Hid (Box ((((w.alloc (.cells #[.int .i64 (S.qg:Nat),.slice aoa S.qh.length capa,.slice aof S.facts.length capf,.slice aor S.rules.length capr] 146)).alloc (.cells #[.slice none 0 0,.int .i64 0,.int .i64 0,.int .i64 0] 152)).alloc (.cells #[.slice (some ⟨w.heap.size+1+1+1,0,none⟩) S.qh.length S.qh.length,.int .i64 0,.int .i64 0,.int .i64 0,.int .i64 (S.qg:Nat),.int .i64 (mr:Nat),.int .i64 (mx:Nat),.slice none 0 0] 214)).alloc (.cells (madeCells #[.pointer none] S.qh.length) 162)) (w.heap.size+1) #[.slice none 0 0,.int .i64 0,.int .i64 0,.int .i64 0] 152):=hb6
 clear hB1 hb3 hb6 hb8 hrow hzz hmk
 generalize ((((w.alloc (.cells #[.int .i64 (S.qg:Nat),.slice aoa S.qh.length capa,.slice aof S.facts.length capf,.slice aor S.rules.length capr] 146)).alloc (.cells #[.slice none 0 0,.int .i64 0,.int .i64 0,.int .i64 0] 152)).alloc (.cells #[.slice (some ⟨w.heap.size+1+1+1,0,none⟩) S.qh.length S.qh.length,.int .i64 0,.int .i64 0,.int .i64 0,.int .i64 (S.qg:Nat),.int .i64 (mr:Nat),.int .i64 (mx:Nat),.slice none 0 0] 214)).alloc (.cells (madeCells #[.pointer none] S.qh.length) 162))=w1 at *
 generalize hg:w.heap.size+1+1+1=g at *
 generalize h8:w.heap.size+1+1=t8 at *
 generalize h6:w.heap.size+1=t6 at *
 have h68:t6≠t8:=by omega
 have h36:w.heap.size < t6:=by omega
 have h8g:t8 < g:=by omega
 have h6g:t6 < g:=by omega
 clear hg h8 h6
 go_loopw [28] (fun v28 wr=>∃ m:Nat,m<=S.qh.length/\v28=.int .i64 m/\∃ ownk tbs,Hid (zm0 lo w wr zse ownk t8 g S.qh.length S.qg mr mx S.qh tbs)/\Hid (tbs.length=m)/\Hid (Box wr w.heap.size #[.int .i64 (S.qg:Nat),.slice aoa S.qh.length capa,.slice aof S.facts.length capf,.slice aor S.rules.length capr] 146)/\Hid (Box wr t6 #[.slice none 0 0,.int .i64 0,.int .i64 0,.int .i64 0] 152)) (fun i _=>S.qh.length - (intOf i).toNat)
 case atStart=>exact⟨0,uaj _,rfl,zse,[],HMK0,rfl,HB3,HB6⟩
 case round =>
  clear HMK0 HB3 HB6
  obtain⟨m,hm,rfl,ownk,tbs,HMK,HTL,HB3,HB6⟩:=hrel
  have hszk:=HMK.out.mod.size
  have hlok:lo<=wr.heap.size:=uap HLO.out hszk
  by_cases hlt:m < S.qh.length
  ·have hari:wr.ownsRow lo 3 1 (.slice aoa S.qh.length capa) S.qh.length (S.qh.map ivN):=zon HS.out.ari HMK.out.mod (fun b _ q=>by
    rcases q with q|q
    ·exact q.2 rfl
    ·revert q;decide)
   obtain⟨ga,capa',hva,_,hga,hca⟩:=zal hari (by omega)
   simp only[Value.slice.injEq] at hva
   have hgg:=hva.1
   clear hva
   subst hgg
   have q0:=hca m (.int .i64 (S.qh[m]:Nat)) (by simp[hlt,ivN])
   have hab:S.qh[m]<=100000000:=HAB.out _ (uad _)
   obtain⟨hc8,hf8⟩:=HMK.out.box.rules
   have hl8:=HMK.out.box.lt
   obtain⟨hc3,hf3⟩:=HB3.out.rules
   have hl3:=HB3.out.lt
   have hmkk:(m:Int) < (S.qh.length:Int):=by omega
   have HN:Hid (∀ W0,Below wr.heap.size wr W0->Calls Tryz.prog 119 #[.int .i64 (S.qg:Nat),.int .i64 (S.qh[m]:Nat)] W0 fun e w'=>∃ tb,e=.returned (.pointer (some ⟨tb,0,none⟩))/\w'.cell? ⟨t8,0,none⟩=some (.slice (some ⟨g,0,none⟩) S.qh.length S.qh.length)/\w'.cell? ⟨w.heap.size,0,none⟩=some (.int .i64 (S.qg:Nat))/\w'.cell? ⟨g,m,none⟩=some (.pointer none)/\(∀ o,w'.frozen? ⟨g,o,none⟩=false)/\g < w'.heap.size/\Hid (Below wr.heap.size wr w'/\∃ own',zm0 lo w (w'.setCell ⟨g,m,none⟩ (.pointer (some ⟨tb,0,none⟩))) zse own' t8 g S.qh.length S.qg mr mx S.qh (tbs++[tb]))):=fun W0 hb=>by
    refine(zr7 W0 S.qg S.qh[m] hsm.1 hab).mono ?_
    rintro e w' ⟨tb,fp,rfl,ht,hb2⟩
    have hB:=zae hb hb2 (uaa _)
    have h0:=HMK.out.step (Mod.of ownk hb)
    have h1:=HMK.out.step (Mod.of ownk hB)
    have htl:=HTL.out
    have hp:=h0.push (tb:=tb) (fp:=fp) (uap hlok hb.size) (by omega) (by rw[htl,show S.qh.getD m 0=S.qh[m] by simp[List.getD,hlt]];exact ht) hb2
    rw[htl] at hp
    refine⟨tb,rfl,h1.box.rules.1 0,(hB.cell hl3).trans (hc3 0),?_,zbt h1.rows,zdq h1.rows rfl,hB,_,hp⟩
    obtain⟨g',cap',hv',_,_,hcl⟩:=zal h1.rows (by omega)
    simp only[Value.slice.injEq,uab,Addr.mk.injEq,and_true] at hv'
    have e:=hv'.1
    subst e
    refine hcl m _ ?_
    rw[ua1 (by simp[pts,htl]),List.getElem?_replicate,if_pos (by simp only[pts,ua0];omega)]
   have x8:wr.cell? ⟨t8,0,none⟩=some (.slice (some ⟨g,0,none⟩) S.qh.length S.qh.length):=hc8 0
   have x3:wr.cell? ⟨w.heap.size,0,none⟩=some (.int .i64 (S.qg:Nat)):=hc3 0
   clear hc8 hc3 hca hari
   generalize S.qh[m]=am at *
   go_upto_region 6 with fail
   go_region_held3 (fun w'=>w'.cell? ⟨t8,0,none⟩=some (.slice (some ⟨g,0,none⟩) S.qh.length S.qh.length)/\w'.cell? ⟨w.heap.size,0,none⟩=some (.int .i64 (S.qg:Nat))) (first|go_keep|(go_simp;done)) (first|(go_at_call 119;refine(HN.out _ (by exact(zau (Below.refl _ _) 1))).mono ?_;rintro e w2 ⟨tb,rfl,y8,y3,yg,yf,yl,HX⟩))
   have hBX:=HX.out.1
   obtain⟨own',HR2⟩:=HX.out.2
   have HRK:Hid (zm0 lo w (w2.setCell ⟨g,m,none⟩ (.pointer (some ⟨tb,0,none⟩))) zse own' t8 g S.qh.length S.qg mr mx S.qh (tbs++[tb])):=HR2
   have HB32:Hid (Box (w2.setCell ⟨g,m,none⟩ (.pointer (some ⟨tb,0,none⟩))) w.heap.size _ 146):=(HB3.out.below hBX).set_ne (by omega) _ _
   have HB62:Hid (Box (w2.setCell ⟨g,m,none⟩ (.pointer (some ⟨tb,0,none⟩))) t6 _ 152):=(HB6.out.below hBX).set_ne (by omega) _ _
   clear hBX HR2 HX y8 y3 yg yf yl HN x8 x3 hf8 hl8 hf3 hl3 q0
   generalize w2.setCell ⟨g,m,none⟩ (.pointer (some ⟨tb,0,none⟩))=W3 at *
   go_wp2
   exact⟨⟨m+1,by omega,by go_num,own',tbs++[tb],HRK,show(tbs++[tb]).length=m+1 by simp[HTL.out],HB32,HB62⟩,by simp[intOf];omega⟩
  ·obtain rfl:m=S.qh.length:=by omega
   have HRO0:Hid (zdc lo wr ownk t8 ⟨S.qh.map (zfv S.qg),0,0,0,[]⟩ S.qg mr mx ⟨.slice (some ⟨g,0,none⟩) S.qh.length S.qh.length,tbs,.slice none 0 0,[]⟩):=HMK.out.done HLO.out HTL.out har hsm
   have HMO0:Hid (Mod lo zb1 w zse wr ownk):=HMK.out.mod
   have HCL:Hid (Calls Tryz.prog 120 #[.pointer (some ⟨t8,0,none⟩)] wr fun e w'=>znj lo wr ownk t8 ⟨S.qh.map (zfv S.qg),0,0,0,[]⟩ S.qg mr mx ⟨.slice (some ⟨g,0,none⟩) S.qh.length S.qh.length,tbs,.slice none 0 0,[]⟩ e w'):=clear_any wr ownk t8 _ S.qg mr mx _ HRO0.out hlok
   clear HMK hlt hm
   go_upto_region 9 with (first|(go_at_call 120;refine HCL.out.mono ?_;rintro e w2 ⟨rfl,fv2,fvs2,hro,hmc⟩))
   have HB3c:Hid (Box w2 w.heap.size #[.int .i64 (S.qg:Nat),.slice aoa S.qh.length capa,.slice aof S.facts.length capf,.slice aor S.rules.length capr] 146):=HB3.out.mod hmc (zfi (by decide) _)
   have HB6c:Hid (Box w2 t6 _ 152):=HB6.out.mod hmc (zfi (by decide) _)
   have HROc:Hid (zdc lo w2 ownk t8 (zfl S) S.qg mr mx ⟨.slice (some ⟨g,0,none⟩) S.qh.length S.qh.length,tbs,fv2,fvs2⟩):=hro
   have HMOc:Hid (Mod lo zb1 w zse w2 ownk):=HMO0.out.trans (hmc.more fun _ _ q=>zom q)
   clear HB3 HB6 HRO0 HMO0 HCL hro hmc hszk hlok
   obtain⟨R1,b1,hF,hE⟩:∃ R1 b1,zjy mr S.facts (zfl S)=some (R1,b1)/\(b1=false/\res=none∨b1=true/\∃ R2 b2,zgg fuel S.qg mr mx S.rules S.qh.length 0 R1=some (R2,b2)/\res=if b2 then some R2 else none):=by
    have hr:=HR.out
    unfold z8x at hr
    split at hr
    ·cases hr
    ·rename_i R1 hA
     simp at hr
     exact⟨R1,false,hA,Or.inl ⟨rfl,hr.symm⟩⟩
    ·rename_i R1 hA
     rw[ua6] at hr
     obtain⟨⟨R2,b2⟩,h1,h2⟩:=hr
     exact⟨R1,true,hA,Or.inr ⟨rfl,R2,b2,h1,h2.symm⟩⟩
   have HE:Hid (b1=false/\res=none∨b1=true/\∃ R2 b2,zgg fuel S.qg mr mx S.rules S.qh.length 0 R1=some (R2,b2)/\res=if b2 then some R2 else none):=hE
   have HF0:Hid (zjy mr (S.facts.drop 0) (zfl S)=some (R1,b1)):=hF
   clear hE hF
   obtain⟨hc3,hf3⟩:=HB3c.out.rules
   have hl3:=HB3c.out.lt
   go_upto_region 10 with fail
   clear hc3 hf3 hl3
   generalize hw5:w2=w5 at *
   clear hw5
   have HL0:Hid ((zfl S).rows.length=S.qh.length):=show(zfl S).rows.length=S.qh.length by simp[zfl,zfa]
   go_loopw [47] (fun v47 wr=>∃ m:Nat,m<=S.facts.length/\v47=.int .i64 m/\∃ Rk ownk fvv fvk,Hid (zdc lo wr ownk t8 Rk S.qg mr mx ⟨.slice (some ⟨g,0,none⟩) S.qh.length S.qh.length,tbs,fvv,fvk⟩)/\Hid (Mod lo zb1 w zse wr ownk)/\Hid (Rk.rows.length=S.qh.length)/\Hid (Box wr w.heap.size #[.int .i64 (S.qg:Nat),.slice aoa S.qh.length capa,.slice aof S.facts.length capf,.slice aor S.rules.length capr] 146)/\Hid (Box wr t6 #[.slice none 0 0,.int .i64 0,.int .i64 0,.int .i64 0] 152)/\Hid (zjy mr (S.facts.drop m) Rk=some (R1,b1))) (fun i _=>S.facts.length - (intOf i).toNat)
   case atStart=>exact⟨0,uaj _,rfl,zfl S,ownk,fv2,fvs2,HROc,HMOc,HL0,HB3c,HB6c,HF0⟩
   case round =>
    clear HROc HMOc HL0 HB3c HB6c HF0
    obtain⟨m,hm,rfl,Rk,ownj,fvv,fvk,HRO,HMO,HRL,HB3,HB6,HFR⟩:=hrel
    have hszk:=HMO.out.size
    have hlok:lo<=wr.heap.size:=uap HLO.out hszk
    by_cases hlt:m < S.facts.length
    ·have hfac:wr.ownsRow lo 210 4 (.slice aof S.facts.length capf) S.facts.length (zcx S.facts):=zee HS.out.fac HMO.out (zen (by decide) (by decide))
     obtain⟨gf,capf',hva,_,hgf,hcf⟩:=zal hfac (by omega)
     simp only[Value.slice.injEq] at hva
     have hgg:=hva.1
     clear hva
     subst hgg
     obtain⟨k0,k1,k2,k3⟩:=zmp S.facts m hlt
     have q0:=hcf _ _ k0
     have q1:=hcf _ _ k1
     have q2:=hcf _ _ k2
     have q3:=hcf _ _ k3
     have hfr:=HFR.out
     rw[uah hlt] at hfr
     unfold zjy at hfr
     have h3:=HF3.out _ (uad hlt)
     obtain⟨x,y,z,hxyz⟩:∃ x y z,S.facts[m].row=[x,y,z]:=by
      match hrow:S.facts[m].row,h3 with
      |[x,y,z],_=>exact⟨x,y,z,rfl⟩
     rw[hxyz] at q1 q2 q3 hfr
     simp only[List.getD_cons_zero,List.getD_cons_succ] at q1 q2 q3
     have hmkk:(m:Int) < (S.facts.length:Int):=by omega
     clear h3 k0 k1 k2 k3 hcf hfac hxyz
     generalize S.facts[m].pred=p at *
     cases ha:zyo mr Rk p [x,y,z] with
     |none=>rw[ha] at hfr;cases hfr
     |some ar =>
      obtain⟨R3,b3⟩:=ar
      rw[ha] at hfr
      have HL3:Hid (R3.rows.length=S.qh.length):=(zri ha).trans HRL.out
      have HAD:Hid (∀ W0,Below wr.heap.size wr W0->Calls Tryz.prog 121 #[.pointer (some ⟨t8,0,none⟩),.int .i64 (p:Nat),.agg #[.int .i64 (x:Nat),.int .i64 (y:Nat),.int .i64 (z:Nat)]] W0 fun e w'=>zvc lo W0 ownj t8 p R3 b3 S.qg mr mx ⟨.slice (some ⟨g,0,none⟩) S.qh.length S.qh.length,tbs,fvv,fvk⟩ e w'):=fun W0 hb=>zya W0 ownj t8 Rk R3 S.qg mr mx _ p x y z b3 (HRO.out.below hb) (uap hlok hb.size) ha
      have hgr:Below wr.heap.size wr (wr.alloc (.cells #[.int .i64 (p:Nat),.int .i64 (x:Nat),.int .i64 (y:Nat),.int .i64 (z:Nat)] 210)):=(by go_grown)
      have HGR:Hid (Below wr.heap.size wr (wr.alloc (.cells #[.int .i64 (p:Nat),.int .i64 (x:Nat),.int .i64 (y:Nat),.int .i64 (z:Nat)] 210))):=hgr
      have HKP:Hid (∀ w4 own4,Mod lo (zm3 p) (wr.alloc (.cells #[.int .i64 (p:Nat),.int .i64 (x:Nat),.int .i64 (y:Nat),.int .i64 (z:Nat)] 210)) ownj w4 own4->Mod lo zb1 w zse w4 own4/\Box w4 w.heap.size #[.int .i64 (S.qg:Nat),.slice aoa S.qh.length capa,.slice (some ⟨gf,0,none⟩) S.facts.length capf,.slice aor S.rules.length capr] 146/\Box w4 t6 #[.slice none 0 0,.int .i64 0,.int .i64 0,.int .i64 0] 152):=fun w4 own4 hm4=>by
       have hm5:Mod lo (zh7 p) wr ownj w4 own4:=(Mod.of ownj HGR.out).trans (hm4.more fun _ _ q=>Or.inl q)
       exact⟨HMO.out.trans (hm5.more fun _ _ q=>zki q),HB3.out.mod hm5 (zhb (by decide) (by decide) _),HB6.out.mod hm5 (zhb (by decide) (by decide) _)⟩
      clear ha hgr
      cases b3 with
      |false =>
       simp only[uab,uak] at hfr
       have HQ:Hid (false=b1):=hfr.2
       clear hfr
       go_wp2_with (first|(go_at_call 121;refine(HAD.out _ HGR.out).mono ?_;rintro e w4 ⟨rfl,own4,fvs4,hro4,hm4⟩;obtain⟨hmm4,_,hb64⟩:=HKP.out _ _ hm4;obtain⟨hc6,hf6⟩:=hb64.rules;have hl6:=hb64.lt))
       have hres:res=none:=by
        have hE:=HE.out
        rw[← HQ.out] at hE
        rcases hE with ⟨_,hE⟩|⟨hx,_⟩
        ·exact hE
        ·cases hx
       have HMF:Hid (Mod lo zb1 w zse _ own4):=hmm4.newer (zas.sets t6 [.slice none 0 0,.int .i64 0,.int .i64 0,.int .i64 0] 0 w4) (fun b hb=>by simp at hb;omega)
       refine bodyPost_ret (v:=.tuple #[.agg #[.slice none 0 0,.int .i64 0,.int .i64 0,.int .i64 0],.bool false]) (by simp[results,Tryz.results74,go_sem,hc6]) rfl ?_
       rw[hres]
       exact⟨rfl,own4,HMF.out⟩
      |true =>
       have HQ:Hid (zjy mr (S.facts.drop (m+1)) R3=some (R1,b1)):=hfr
       clear hfr
       go_wp2_with (first|(go_at_call 121;refine(HAD.out _ HGR.out).mono ?_;rintro e w4 ⟨rfl,own4,fvs4,hro4,hm4⟩))
       obtain⟨hmm4,hb34,hb64⟩:=HKP.out _ _ hm4
       exact⟨⟨m+1,by omega,by go_num,R3,own4,fvv,fvs4,hro4,hmm4,HL3,hb34,hb64,HQ⟩,by simp[intOf];omega⟩
    ·obtain rfl:m=S.facts.length:=by omega
     have hfr:=HFR.out
     rw[List.drop_length] at hfr
     simp only[zjy,uab,uak] at hfr
     obtain⟨R2,b2,hst,hres⟩:∃ R2 b2,zgg fuel S.qg mr mx S.rules S.qh.length 0 Rk=some (R2,b2)/\res=if b2 then some R2 else none:=by
      have hE:=HE.out
      rw[← hfr.2,← hfr.1] at hE
      rcases hE with ⟨hx,_⟩|⟨_,hE⟩
      ·cases hx
      ·exact hE
     have HST0:Hid (zgg fuel S.qg mr mx S.rules (S.qh.length - 0) 0 Rk=some (R2,b2)):=hst
     have HRES:Hid (res=if b2 then some R2 else none):=hres
     clear hfr hst hres HFR HE hlt hm hszk hlok
     obtain⟨hc3,hf3⟩:=HB3.out.rules
     have hl3:=HB3.out.lt
     go_upto_region 16 with fail
     clear hc3 hf3 hl3
     generalize hw6:wr=w6 at *
     clear hw6
     go_loopw [62] (fun v62 wr=>∃ m:Nat,m<=S.qh.length/\v62=.int .i64 m/\∃ Rk ownk fvv fvk,Hid (zdc lo wr ownk t8 Rk S.qg mr mx ⟨.slice (some ⟨g,0,none⟩) S.qh.length S.qh.length,tbs,fvv,fvk⟩)/\Hid (Mod lo zb1 w zse wr ownk)/\Hid (Rk.rows.length=S.qh.length)/\Hid (Box wr w.heap.size #[.int .i64 (S.qg:Nat),.slice aoa S.qh.length capa,.slice aof S.facts.length capf,.slice aor S.rules.length capr] 146)/\Hid (Box wr t6 #[.slice none 0 0,.int .i64 0,.int .i64 0,.int .i64 0] 152)/\Hid (zgg fuel S.qg mr mx S.rules (S.qh.length - m) m Rk=some (R2,b2))) (fun i _=>S.qh.length - (intOf i).toNat)
     case atStart=>exact⟨0,uaj _,rfl,Rk,ownj,fvv,fvk,HRO,HMO,HRL,HB3,HB6,HST0⟩
     case round =>
      clear HRO HMO HRL HB3 HB6 HST0
      obtain⟨m,hm,rfl,Ri,owni,fvi,fvj,HRO,HMO,HRL,HB3,HB6,HST⟩:=hrel
      have hszk:=HMO.out.size
      have hlok:lo<=wr.heap.size:=uap HLO.out hszk
      by_cases hlt:m < S.qh.length
      ·have hs1:=HST.out
       rw[show S.qh.length - m=(S.qh.length - (m+1))+1 from by omega] at hs1
       unfold zgg at hs1
       cases hsr:zlr fuel S.qg mr mx S.rules Ri m with
       |none=>rw[hsr] at hs1;cases hs1
       |some ar =>
        obtain⟨R3,b3⟩:=ar
        rw[hsr] at hs1
        have HRU:zcv lo wr (.slice aor S.rules.length capr) S.rules ps:=HS.out.rul.mod HMO.out (zen (by decide) (by decide)) (zen (by decide) (by decide)) (zen (by decide) (by decide))
        have HSA:Hid (Calls Tryz.prog 122 #[.pointer (some ⟨t8,0,none⟩),.slice aor S.rules.length capr,.int .i64 (m:Nat)] wr fun e w'=>zsj lo wr owni t8 Ri R3 S.qg mr mx ⟨.slice (some ⟨g,0,none⟩) S.qh.length S.qh.length,tbs,fvi,fvj⟩ b3 e w'):=zw1 wr owni t8 m Ri R3 _ S.rules ps S.qg mr mx _ fuel b3 HRO.out HRU hlok (by rw[HRL.out];exact HOK.out) hsr
        have HKP:Hid (∀ w4 own4,Mod lo zb1 wr owni w4 own4->Mod lo zb1 w zse w4 own4/\Box w4 w.heap.size #[.int .i64 (S.qg:Nat),.slice aoa S.qh.length capa,.slice aof S.facts.length capf,.slice aor S.rules.length capr] 146/\Box w4 t6 #[.slice none 0 0,.int .i64 0,.int .i64 0,.int .i64 0] 152):=fun w4 own4 hm4=>⟨HMO.out.trans hm4,HB3.out.mod hm4 (zen (by decide) (by decide) _),HB6.out.mod hm4 (zen (by decide) (by decide) _)⟩
        obtain⟨hc3,hf3⟩:=HB3.out.rules
        have hl3:=HB3.out.lt
        have hmkk:(m:Int) < (S.qh.length:Int):=by omega
        clear hsr HRU
        cases b3 with
        |false =>
         simp only[uab,uak] at hs1
         have HQ:Hid (false=b2):=hs1.2
         clear hs1
         go_wp2_with (first|(go_at_call 122;refine HSA.out.mono ?_;rintro e w4 ⟨rfl,own4,fv4,fvs4,hro4,hrl4,hm4⟩;obtain⟨hmm4,_,hb64⟩:=HKP.out _ _ hm4;obtain⟨hc6,hf6⟩:=hb64.rules;have hl6:=hb64.lt))
         have hres:res=none:=by rw[HRES.out,← HQ.out];rfl
         have HMF:Hid (Mod lo zb1 w zse _ own4):=hmm4.newer (zas.sets t6 [.slice none 0 0,.int .i64 0,.int .i64 0,.int .i64 0] 0 w4) (fun b hb=>by simp at hb;omega)
         refine bodyPost_ret (v:=.tuple #[.agg #[.slice none 0 0,.int .i64 0,.int .i64 0,.int .i64 0],.bool false]) (by simp[results,Tryz.results74,go_sem,hc6]) rfl ?_
         rw[hres]
         exact⟨rfl,own4,HMF.out⟩
        |true =>
         have HQ:Hid (zgg fuel S.qg mr mx S.rules (S.qh.length - (m+1)) (m+1) R3=some (R2,b2)):=hs1
         clear hs1
         go_wp2_with (first|(go_at_call 122;refine HSA.out.mono ?_;rintro e w4 ⟨rfl,own4,fv4,fvs4,hro4,hrl4,hm4⟩))
         obtain⟨hmm4,hb34,hb64⟩:=HKP.out _ _ hm4
         exact⟨⟨m+1,by omega,by go_num,R3,own4,fv4,fvs4,hro4,hmm4,hrl4.trans HRL.out,hb34,hb64,HQ⟩,by simp[intOf];omega⟩
      ·obtain rfl:m=S.qh.length:=by omega
       have hs1:=HST.out
       rw[ubs] at hs1
       simp only[zgg,uab,uak] at hs1
       have hres:res=some Ri:=by rw[HRES.out,← hs1.2,← hs1.1];rfl
       have HRS:Hid (res=some Ri):=hres
       clear hs1 hres HRES
       obtain⟨hl8,hf8,d0,d1,d2,d3,d4,d5,d6,d7⟩:=HRO.out.at
       obtain⟨hc6,hf6⟩:=HB6.out.rules
       have hl6:=HB6.out.lt
       dsimp only at d0
       clear d4 d5 d6 d7
       have h86:t8≠t6:=fun e=>h68 e.symm
       go_wp2
       have hsv:=zas.sets t6 [.slice (some ⟨g,0,none⟩) S.qh.length S.qh.length,.int .i64 (Ri.count:Nat),.int .i64 (Ri.qw:Nat),.int .i64 Ri.jf] 0 wr
       have hmO:Mod lo (ze3 [152]) wr owni _ owni:=Mod.ofSave owni hsv (fun b hb=>by
        simp at hb
        subst hb
        exact⟨by have:=HLO.out;omega,hl6,_,_,HB6.out,ua3.2 rfl⟩)
       have HRF:Hid (zdc lo _ owni t8 Ri S.qg mr mx ⟨.slice (some ⟨g,0,none⟩) S.qh.length S.qh.length,tbs,fvi,fvj⟩):=HRO.out.mod hmO (zfi (by decide)) (zfi (by decide)) (zfi (by decide)) (fun _=>zfi (by decide) _) (fun _ t ht q=>by rw[ua3.1 q] at ht;exact ht (by decide))
       have HMF:Hid (Mod lo zb1 w zse _ owni):=HMO.out.newer hsv (fun b hb=>by simp at hb;omega)
       clear hsv hmO
       refine bodyPost_ret (v:=.tuple #[.agg #[.slice (some ⟨g,0,none⟩) S.qh.length S.qh.length,.int .i64 (Ri.count:Nat),.int .i64 (Ri.qw:Nat),.int .i64 Ri.jf],.bool true]) (by simp[results,Tryz.results74,go_sem,hc6]) rfl ?_
       rw[HRS.out]
       exact⟨owni,t8,⟨.slice (some ⟨g,0,none⟩) S.qh.length S.qh.length,tbs,fvi,fvj⟩,rfl,HRF.out,HMF.out⟩
end Go.Proofs.YteampbddflhngaaGreat
namespace Go.Proofs.YteampbddflhngaaGreat
set_option maxRecDepth 100000
set_option maxHeartbeats 2000000
open Go.RowKit
variable {lo:Nat}
def CAt(lo:Nat)(w:World)(cb o:Nat)(ns:List ByteArray):Prop:=cb < w.heap.size/\∃ v,w.cell? ⟨cb,o,none⟩=some v/\SIn lo w v ns
theorem CAt.below{w w':World}{cb o:Nat}{ns:List ByteArray}(h:CAt lo w cb o ns)(hb:Below w.heap.size w w'):CAt lo w' cb o ns:=by
 obtain⟨h1,v,h2,h3⟩:=h;exact⟨ual h1 hb.size,v,(hb.cell h1).trans h2,h3.below hb⟩
theorem z1t(w:World)(cb o:Nat)(ns:List ByteArray)(x:ByteArray)(h:CAt lo w cb o ns)(hl:ns.length<=1000) :
  Calls Tryz.prog 168 #[.pointer (some ⟨cb,o,none⟩),.string x] w fun e w'=>e=.returned (.int .i64 (zbs ns x:Nat))/\∃ m,w'=w.drewN m:=by
 obtain⟨hlt,v,hc,hs⟩:=h
 obtain⟨ao,cap,rfl⟩:=hs.shape
 go_enter Tryz.func168,Tryz.ntmps168
 go_wp2
 go_quiet (fail)
 have hB:Below w.heap.size w (w.drewN nq):=zau (Below.refl _ _) _
 have hc2:=(hB.cell (p:=⟨cb,o,none⟩) hlt).trans hc
 have hlt2:cb < (w.drewN nq).heap.size:=ual hlt hB.size
 have hs2:=hs.below hB
 have HEX:Hid (∃ m,w.drewN nq=w.drewN m):=⟨nq,rfl⟩
 clear hc hlt
 generalize w.drewN nq=w1 at *
 go_wp2
 go_loopg [5,6] (ns.length+1) (fun k v5 v6 wr=>∃ l h:Nat,v5=.int .i64 l/\v6=.int .i64 h/\h<=ns.length/\l<=ns.length/\h - l < k/\Hid (zbs ns x=halves ns x k l h)/\wr=w1)
 case atStart=>exact⟨0,ns.length,rfl,rfl,by omega,by omega,by omega,rfl,rfl⟩
 case round =>
  obtain⟨l,h,rfl,rfl,hh,hll,hgk,HP,rfl⟩:=hrel
  cases gk with
  |zero=>omega
  |succ m =>
   by_cases hlh:l < h
   ·obtain⟨md,hmd⟩:∃ md,md=l+(h - l) / 2:=⟨_,rfl⟩
    have hm1:l<=md:=by omega
    have hm2:md < h:=by omega
    have hmI:(l:Int)+((h:Int) - (l:Int)).tdiv 2=(md:Int):=by
     rw[Int.tdiv_eq_ediv_of_nonneg (by omega)];omega
    have hmn:md < ns.length:=by omega
    have q:=HP.out
    unfold halves at q
    rw[if_pos hlh,← hmd,show ns.getD md ByteArray.empty=ns[md] from by simp[List.getD_eq_getElem?_getD,hmn]] at q
    obtain⟨g,rfl,hg,hcell⟩:=hs2.cell md hmn
    clear hmd
    cases hL:ltB ns[md] x with
    |true =>
     rw[hL,if_pos rfl] at q
     have HQ:Hid (zbs ns x=halves ns x m (md+1) h):=q
     unfold ltB at hL
     clear q HP
     generalize ns[md]=y at *
     go_wp2
     go_roundg m
     case measure=>omega
     case rel=>exact⟨md+1,h,by go_num,rfl,hh,by omega,by omega,HQ,rfl⟩
    |false =>
     rw[hL,if_neg (by simp)] at q
     have HQ:Hid (zbs ns x=halves ns x m l md):=q
     unfold ltB at hL
     clear q HP
     generalize ns[md]=y at *
     go_wp2
     go_roundg m
     case measure=>omega
     case rel=>exact⟨l,md,rfl,rfl,by omega,hll,by omega,HQ,rfl⟩
   ·have q:=HP.out
    unfold halves at q
    rw[if_neg hlh] at q
    have HQ:Hid (zbs ns x=l):=q
    clear q HP
    go_wp2
    go_ret
    exact⟨by rw[HQ.out];rfl,HEX.out⟩
theorem z1u(w:World)(cb o:Nat)(ns:List ByteArray)(x:ByteArray)(h:CAt lo w cb o ns)(hl:ns.length<=1000) :
  Calls Tryz.prog 129 #[.pointer (some ⟨cb,o,none⟩),.string x] w fun e w'=>e=.returned (.tuple #[.int .i64 (((zco ns x).getD 0:Nat):Int),.bool (zco ns x).isSome])/\∃ m,w'=w.drewN m:=by
 have HP:Hid (Calls Tryz.prog 168 #[.pointer (some ⟨cb,o,none⟩),.string x] w fun e w'=>e=.returned (.int .i64 (zbs ns x:Nat))/\∃ m,w'=w.drewN m):=z1t w cb o ns x h hl
 obtain⟨hlt,v,hc,hs⟩:=h
 obtain⟨ao,cap,rfl⟩:=hs.shape
 have HE:Hid (zco ns x=if zbs ns x < ns.length/\ns.getD (zbs ns x) ByteArray.empty=x then some (zbs ns x) else none):=rfl
 generalize zbs ns x=pc at *
 by_cases h1:pc < ns.length
 ·have eg:ns.getD pc ByteArray.empty=ns[pc]:=by simp[List.getD_eq_getElem?_getD,h1]
  rw[eg] at HE
  by_cases h2:ns[pc]=x
  ·rw[if_pos ⟨h1,h2⟩] at HE
   obtain⟨g,rfl,hg,hcell⟩:=hs.cell pc h1
   have hse:=zfm h2
   clear h2 eg
   generalize ns[pc]=y at *
   go_enter Tryz.func129,Tryz.ntmps129
   go_wp2_with (first|(go_at_call 168;refine HP.out.mono ?_;rintro r w' ⟨rfl,m,rfl⟩;have hc2:=((zau (Below.refl w.heap.size w) m).cell (p:=⟨cb,o,none⟩) hlt).trans hc;have hlt2:cb < (w.drewN m).heap.size:=hlt;have hx:=((zau (Below.refl w.heap.size w) m).cell (p:=⟨g,pc,none⟩) hg).trans hcell;have hg2:g < (w.drewN m).heap.size:=hg))
   go_ret2
   exact⟨by rw[HE.out];rfl,m,rfl⟩
  ·rw[if_neg (fun q=>h2 q.2)] at HE
   obtain⟨g,rfl,hg,hcell⟩:=hs.cell pc h1
   have hse:=zei h2
   clear h2 eg
   generalize ns[pc]=y at *
   go_enter Tryz.func129,Tryz.ntmps129
   go_wp2_with (first|(go_at_call 168;refine HP.out.mono ?_;rintro r w' ⟨rfl,m,rfl⟩;have hc2:=((zau (Below.refl w.heap.size w) m).cell (p:=⟨cb,o,none⟩) hlt).trans hc;have hlt2:cb < (w.drewN m).heap.size:=hlt;have hx:=((zau (Below.refl w.heap.size w) m).cell (p:=⟨g,pc,none⟩) hg).trans hcell;have hg2:g < (w.drewN m).heap.size:=hg))
   go_ret2
   exact⟨by rw[HE.out];rfl,m,rfl⟩
 ·rw[if_neg (fun q=>h1 q.1)] at HE
  have h1':ns.length<=pc:=by omega
  go_enter Tryz.func129,Tryz.ntmps129
  go_wp2_with (first|(go_at_call 168;refine HP.out.mono ?_;rintro r w' ⟨rfl,m,rfl⟩;have hc2:=((zau (Below.refl w.heap.size w) m).cell (p:=⟨cb,o,none⟩) hlt).trans hc;have hlt2:cb < (w.drewN m).heap.size:=hlt))
  go_ret2
  exact⟨by rw[HE.out];rfl,m,rfl⟩
theorem z5m(w:World)(cb o:Nat)(ns:List ByteArray)(k:Nat)(h:CAt lo w cb o ns) :
  Calls Tryz.prog 128 #[.pointer (some ⟨cb,o,none⟩),.int .i64 k] w fun e w'=>e=.returned (.string (ns.getD k ByteArray.empty))/\w'=w:=by
 obtain⟨hlt,v,hc,hs⟩:=h
 obtain⟨ao,cap,rfl⟩:=hs.shape
 by_cases h1:k < ns.length
 ·have HE:Hid (ns.getD k ByteArray.empty=ns[k]):=by simp[Hid,List.getD_eq_getElem?_getD,h1]
  obtain⟨g,rfl,hg,hcell⟩:=hs.cell k h1
  generalize ns[k]=y at *
  go_enter Tryz.func128,Tryz.ntmps128
  go_wp2
  go_ret
  exact⟨by rw[HE.out];rfl,rfl⟩
 ·have HE:Hid (ns.getD k ByteArray.empty=ByteArray.empty):=by simp[Hid,List.getD_eq_getElem?_getD,List.getElem?_eq_none (Nat.le_of_not_lt h1)]
  have h1':ns.length<=k:=by omega
  go_enter Tryz.func128,Tryz.ntmps128
  go_wp2
  go_ret
  exact⟨by rw[HE.out];rfl,rfl⟩
end Go.Proofs.YteampbddflhngaaGreat
