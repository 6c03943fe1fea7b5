import Derived.Test.YteampbddflhngaaGreatW06

namespace Go.Proofs.YteampbddflhngaaGreat
set_option maxRecDepth 100000
set_option maxHeartbeats 1000000
open Go.RowKit
variable {lo:Nat}
variable {t:List zar}{o:Option (List zar)}
theorem zrj{t':List zar}{l:zbu}(h:zps t l=some t'):t'.length<=t.length+1:=by
 unfold zps at h
 split at h
 ·split at h <;> simp at h;subst h;omega
 ·simp at h;subst h;rw[zed];omega
theorem z03{t':List zar}{l:zbu}(h:zps t l=some t')(hz:∀ e∈t,e.qi<=0):∀ e∈t',e.qi<=0:=by
 unfold zps at h
 split at h
 ·split at h <;> simp at h;subst h;exact hz
 ·simp at h;subst h
  intro e he
  unfold zgo at he
  rcases uao.1 he with he|he
  ·exact hz e (List.mem_of_mem_take he)
  ·rcases uag.1 he with he|he
   ·subst he;exact uaa _
   ·exact hz e (ucz he)
def zm7(o:Option (List zar))(l:zbu):Option (List zar):=o.bind (zps · l)
def za2(c:zab):List zbu:=c.head::c.body
def zgm(cs:List zab):Option (List zar):=(cs.flatMap za2).foldl zm7 (some [])
theorem zis(ls:List zbu):ls.foldl zm7 none=none:=by
 induction ls with
 |nil=>rfl
 |cons a ls ih=>exact ih
theorem znr:∀(ls:List zbu) (t:List zar),(∀ e∈t,e.qi<=0)->∀ t',ls.foldl zm7 (some t)=some t'->∀ e∈t',e.qi<=0
 |[],t,hz,t',h=>by simp at h;subst h;exact hz
 |l::ls,t,hz,t',h=>by
  simp only[uax] at h
  cases ha:zps t l with
  |none=>rw[show zm7 (some t) l=none from ha,zis] at h;cases h
  |some t2=>rw[show zm7 (some t) l=some t2 from ha] at h;exact znr ls t2 (z03 ha hz) t' h
theorem zrh:∀(ls:List zbu) (t:List zar),∀ t',ls.foldl zm7 (some t)=some t'->t'.length<=t.length+ls.length
 |[],t,t',h=>by simp at h;subst h;simp
 |l::ls,t,t',h=>by
  simp only[uax] at h
  cases ha:zps t l with
  |none=>rw[show zm7 (some t) l=none from ha,zis] at h;cases h
  |some t2=>rw[show zm7 (some t) l=some t2 from ha] at h;have:=zrh ls t2 t' h;have:=zrj ha;simp;omega
theorem z4g(B:Nat)(w:World)(tb:Nat)(t:List zar)(l:zbu)(aoa:Option Addr)(capa:Nat)(h:TA B w tb t)(hl:t.length<=1000)(hn:zps t l=none) :
  Calls Tryz.prog 102 #[.pointer (some ⟨tb,0,none⟩),.agg #[.bool l.neg,.string l.pred,.slice aoa l.args.length capa]] w fun e w'=>e=.returned (.bool false)/\Below w.heap.size w w':=by
 unfold zps at hn
 split at hn
 ·rename_i e0 he
  split at hn
  ·cases hn
  ·rename_i hne
   have:=zyf B w tb t l aoa capa h hl e0 he
   rw[decide_eq_false hne] at this
   exact this
 ·cases hn
theorem zyg(B:Nat)(w:World)(tb:Nat)(t t2:List zar)(l:zbu)(aoa:Option Addr)(capa:Nat)(h:TA B w tb t)(hl:t.length<=1000)(hn:zps t l=some t2)(hB:B<=w.heap.size)(hBt:B<=tb) :
  Calls Tryz.prog 102 #[.pointer (some ⟨tb,0,none⟩),.agg #[.bool l.neg,.string l.pred,.slice aoa l.args.length capa]] w fun e w'=>e=.returned (.bool true)/\TA B w' tb t2/\Below B w w'/\zhg tb w w':=by
 unfold zps at hn
 split at hn
 ·rename_i e0 he
  split at hn
  ·rename_i heq
   simp at hn
   subst hn
   have:=zyf B w tb t l aoa capa h hl e0 he
   rw[decide_eq_true heq] at this
   refine this.mono ?_
   rintro e w' ⟨rfl,hb⟩
   exact⟨rfl,h.below hb,hb.mono hB,zhg.of hb⟩
  ·cases hn
 ·rename_i he
  simp at hn
  subst hn
  exact z7c B w tb t l aoa capa h hl he hB hBt
def zrd(o:Option (List zar))(w:World)(e:Ending)(w':World):Prop :=
 Below w.heap.size w w'/\match o with
  |none=>e=.returned (.tuple #[.agg #[.slice none 0 0],.bool false])
  |some t=>∃ pv,e=.returned (.tuple #[.agg #[pv],.bool true])/\w'.ownsRow w.heap.size 221 3 pv t.length (zcb t)
theorem znx{w w':World}(h:Hid (o=none))(hb:Below w.heap.size w w'):zrd o w (.returned (.tuple #[.agg #[.slice none 0 0],.bool false])) w':=by
 have h':o=none:=h
 subst h';exact⟨hb,rfl⟩
theorem zsz{w w':World}{pv:Value}(h:Hid (o=some t))(hb:Below w.heap.size w w')(ho:w'.ownsRow w.heap.size 221 3 pv t.length (zcb t)):zrd o w (.returned (.tuple #[.agg #[pv],.bool true])) w':=by
 have h':o=some t:=h
 subst h';exact⟨hb,pv,rfl,ho⟩
theorem zny(w:World)(v:Value)(cs:List zab)(hcs:CIn lo 171 w v cs)(hN:(cs.flatMap za2).length<=1000) :
  Calls Tryz.prog 62 #[v] w fun e w'=>zrd (zgm cs) w e w':=by
 obtain⟨ao,cap,rfl⟩:=hcs.shape
 have hcl:cs.length<=1000:=by
  have:cs.length<=(cs.flatMap za2).length:=by
   clear hN hcs
   induction cs with
   |nil=>simp
   |cons c cs ih=>simp[za2] at ih ⊢;omega
  omega
 go_enter Tryz.func62,Tryz.ntmps62
 go_wp2
 go_loopw [11] (fun i wr=>∃(k:Nat) (tk:List zar),k<=cs.length/\i=.int .i64 k/\Below w.heap.size w wr/\TA w.heap.size wr (w.heap.size+1) tk/\Box wr w.heap.size #[.slice none 0 0] 127/\tk.length+((cs.drop k).flatMap za2).length<=1000/\Hid (zgm cs=((cs.drop k).flatMap za2).foldl zm7 (some tk))) (fun i _=>cs.length - (intOf i).toNat)
 case atStart =>
  have hb1:=(Below.refl w.heap.size w).alloc (uaa _) (.cells #[.slice none 0 0] 127)
  exact⟨0,[],uaj _,rfl,(by go_grown),⟨_,Box.newAt _ _ _ _ (by simp),World.ownsRow_nil _ _ _ _⟩,(Box.new w _ _).below ((Below.refl _ _).alloc (uaa _) _),(by simpa using hN),rfl⟩
 case round =>
  obtain⟨k,tk,hk,rfl,hbk,htk,hres,hnk,H⟩:=hrel
  have hszk:=hbk.size
  have hres1:=hres.lt
  have htl:w.heap.size+1 < wr.heap.size:=by obtain⟨_,hb,_⟩:=htk;exact hb.lt
  by_cases hlt:k < cs.length
  ·have hdr:=uah hlt
   obtain⟨g,ao2,cap2,ao3,cap3,rfl,hg,hc0,hc1,hc2,hc3,hsk,hlk⟩:=hcs.cell k hlt
   have hd0:=(hbk.cell (p:=⟨g,k * 4,none⟩) hg).trans hc0
   have hd1:=(hbk.cell (p:=⟨g,k * 4+1,none⟩) hg).trans hc1
   have hd2:=(hbk.cell (p:=⟨g,k * 4+2,none⟩) hg).trans hc2
   have hd3:=(hbk.cell (p:=⟨g,k * 4+3,none⟩) hg).trans hc3
   have hgr:g < wr.heap.size:=by omega
   clear hc0 hc1 hc2 hc3 hsk
   generalize cs[k]=c at *
   rw[hdr] at hnk
   have H1:Hid (zgm cs=(c.body++(cs.drop (k+1)).flatMap za2).foldl zm7 (zm7 (some tk) c.head)):=by rw[Hid,H.out,hdr];rfl
   simp only[ua5,za2,uar,ua7] at hnk
   generalize hR:(cs.drop (k+1)).flatMap za2=rest at *
   have HR:Hid ((cs.drop (k+1)).flatMap za2=rest):=hR
   clear hR H hdr
   cases hA:zps tk c.head with
   |none =>
    have HA:Hid (zps tk c.head=none):=hA
    have HF:Hid (zgm cs=none):=by rw[Hid,H1.out,show zm7 (some tk) c.head=none from hA,zis]
    clear H1 hA
    go_wp2_with (first|(go_at_call 102;refine(z4g w.heap.size _ (w.heap.size+1) tk c.head _ _ (by exact htk.below (by go_grown)) (by omega) HA).mono ?_;rintro e w1 ⟨rfl,hb1⟩;have hB1:=zae ((Below.refl wr.heap.size wr).alloc (uaa _) _) hb1 (uaa _);have hBB:=zae hbk hB1 (uaa _);have hres2:=hres.below hB1;obtain⟨hrc,hrf⟩:=hres2.rules;have hz2:=hres2.lt))
    exact bodyPost_ret (v:=.tuple #[.agg #[.slice none 0 0],.bool false]) (by simp[results,Tryz.results62,go_sem,hrc]) rfl (znx HF (by go_grown))
   |some t1 =>
    have HA:Hid (zps tk c.head=some t1):=hA
    have hl1:=zrj hA
    have H2:Hid (zgm cs=(c.body++rest).foldl zm7 (some t1)):=by rw[Hid,H1.out,show zm7 (some tk) c.head=some t1 from hA]
    clear H1 hA
    go_wp2_with (first|(go_at_call 102;refine(zyg w.heap.size _ (w.heap.size+1) tk t1 c.head _ _ (by exact htk.below (by go_grown)) (by omega) HA (by exact uap hszk (by simp)) (by omega)).mono ?_;rintro e w1 ⟨rfl,ht1,hb1,hkp1⟩;have hBB:Below w.heap.size w w1:=(hbk.alloc hszk _).trans hb1;have hres2:=hkp1.box _ _ _ (by omega) (by decide) (hres.below ((Below.refl _ _).alloc (uaa _) _));have hcb:=hkp1.box _ _ _ (by omega) (by decide) (Box.new wr _ _);obtain⟨hcc,hcf⟩:=hcb.rules;have hzc:=hcb.lt;have hz2:=hres2.lt))
    go_loopw [23] (fun i wj=>∃(j:Nat) (tj:List zar),j<=c.body.length/\i=.int .i64 j/\Below w.heap.size w wj/\TA w.heap.size wj (w.heap.size+1) tj/\Box wj w.heap.size #[.slice none 0 0] 127/\tj.length+(c.body.drop j).length+rest.length<=1000/\Hid (zgm cs=(c.body.drop j++rest).foldl zm7 (some tj))) (fun i _=>c.body.length - (intOf i).toNat)
    case atStart=>exact⟨0,t1,uaj _,rfl,hBB,ht1,hres2,(by simp;omega),H2⟩
    case round =>
     clear hcc hcf hcb hzc
     obtain⟨j,tj,hj,rfl,hbj,htj,hresj,hnj,HJ⟩:=hrel
     have hszj:=hbj.size
     have hresl:=hresj.lt
     by_cases hjl:j < c.body.length
     ·obtain⟨gl,aol,capl,rfl,hgl,hl0,hl1',hl2',_⟩:=hlk.cell j hjl
      have he0:=(hbj.cell (p:=⟨gl,j * 3,none⟩) hgl).trans hl0
      have he1:=(hbj.cell (p:=⟨gl,j * 3+1,none⟩) hgl).trans hl1'
      have he2:=(hbj.cell (p:=⟨gl,j * 3+2,none⟩) hgl).trans hl2'
      have hgj:gl < wr.heap.size:=by omega
      have hdj:=uah hjl
      clear hl0 hl1' hl2'
      generalize c.body[j]=a at *
      rw[hdj] at hnj
      have HJ1:Hid (zgm cs=(c.body.drop (j+1)++rest).foldl zm7 (zm7 (some tj) a)):=by rw[Hid,HJ.out,hdj];rfl
      simp only[ua7] at hnj
      clear hdj HJ
      cases hA:zps tj a with
      |none =>
       have HA:Hid (zps tj a=none):=hA
       have HF:Hid (zgm cs=none):=by rw[Hid,HJ1.out,show zm7 (some tj) a=none from hA,zis]
       clear HJ1 hA
       go_wp2_with (first|(go_at_call 102;refine(z4g w.heap.size _ (w.heap.size+1) tj a _ _ (by exact htj.below (by go_grown)) (by omega) HA).mono ?_;rintro e w3 ⟨rfl,hb3⟩;have hB3:=zae ((Below.refl wr.heap.size wr).alloc (uaa _) _) hb3 (uaa _);have hBB3:=zae hbj hB3 (uaa _);have hres3:=hresj.below hB3;obtain⟨hrc,hrf⟩:=hres3.rules;have hz3:=hres3.lt))
       exact bodyPost_ret (v:=.tuple #[.agg #[.slice none 0 0],.bool false]) (by simp[results,Tryz.results62,go_sem,hrc]) rfl (znx HF (by go_grown))
      |some t2 =>
       have HA:Hid (zps tj a=some t2):=hA
       have hl2:=zrj hA
       have HJ2:Hid (zgm cs=(c.body.drop (j+1)++rest).foldl zm7 (some t2)):=by rw[Hid,HJ1.out,show zm7 (some tj) a=some t2 from hA]
       have htjl:w.heap.size+1 < wr.heap.size:=by obtain⟨_,hb,_⟩:=htj;exact hb.lt
       clear HJ1 hA
       go_wp2_with (first|(go_at_call 102;refine(zyg w.heap.size _ (w.heap.size+1) tj t2 a _ _ (by exact htj.below (by go_grown)) (by omega) HA (by exact uap hszj (by simp)) (by omega)).mono ?_;rintro e w3 ⟨rfl,ht3,hb3,hkp3⟩;have hBB3:Below w.heap.size w w3:=(hbj.alloc hszj _).trans hb3;have hres3:=hkp3.box _ _ _ (by omega) (by decide) (hresj.below ((Below.refl _ _).alloc (uaa _) _))))
       go_roundw
       case rel=>exact⟨j+1,t2,by omega,by go_num,hBB3,ht3,hres3,by omega,HJ2⟩
       case measure=>simp[intOf];omega
     ·have HE:Hid (zgm cs=((cs.drop (k+1)).flatMap za2).foldl zm7 (some tj)):=by rw[Hid,HJ.out,uaq (by omega),HR.out];rfl
      have hnr:tj.length+rest.length<=1000:=by omega
      clear HJ
      go_wp2
      go_roundw
      case rel=>exact⟨k+1,tj,by omega,by go_num,hbj,htj,hresj,by rw[HR.out];exact hnr,HE⟩
      case measure=>simp[intOf];omega
  ·have HF:Hid (zgm cs=some tk):=by rw[Hid,H.out,uaq (by omega)];rfl
   obtain⟨aop,capp,hbx,hown⟩:=htk.view
   obtain⟨hc,hf⟩:=hbx.rules
   obtain⟨hrc,hrf⟩:=hres.rules
   have hbxl:=hbx.lt
   clear H
   go_wp2
   have ho2:=zb9 hown ((But.refl w.heap.size wr).setCell 0 (.slice aop tk.length capp)) hres (by decide)
   exact bodyPost_ret (v:=.tuple #[.agg #[.slice aop tk.length capp],.bool true]) (by simp[results,Tryz.results62,go_sem,hrc]) rfl (zsz HF (by go_grown) ho2)
end Go.Proofs.YteampbddflhngaaGreat
namespace Go.Proofs.YteampbddflhngaaGreat
open Go.RowKit
variable {lo:Nat}
def z7t(l:zbu):Prop:=l.pred.size<=6/\0 < l.pred.size/\l.args.length<=1000/\∀ t∈l.args,0 < t.size/\t.size<=6
def z95(c:zab):Prop:=(∀ l∈za2 c,z7t l)/\c.body.length<=1000
end Go.Proofs.YteampbddflhngaaGreat
namespace Go.Proofs.YteampbddflhngaaGreat
set_option maxRecDepth 100000
set_option maxHeartbeats 1000000
open Go.RowKit
variable {lo:Nat}
variable {r r2:List Tok}
def z0y(l:zbu):Nat:=l.args.length+1
def sumW(ls:List zbu):Nat:=ls.foldr (fun l n=>z0y l+n) 0
def clW(c:zab):Nat:=z0y c.head+sumW c.body
def prW(cs:List zab):Nat:=cs.foldr (fun c n=>clW c+n) 0
theorem zx7:∀(r:List Tok) {ts:List ByteArray} {r2:List Tok},zbv r=some (ts,r2)->ts.length+r2.length<=r.length
 |[],_,_,h=>by simp[zbv] at h
 |[x],ts,r2,h=>by
  simp only[zbv] at h
  split at h <;> simp at h
  obtain⟨rfl,rfl⟩:=h;simp
 |x::y::r,ts,r2,h=>by
  simp only[zbv] at h
  split at h
  ·split at h
   ·cases hq:zbv r with
    |none=>rw[hq] at h;simp at h
    |some z =>
     obtain⟨ts',r'⟩:=z
     rw[hq] at h;simp at h
     have:=zx7 r hq
     obtain⟨rfl,rfl⟩:=h;simp;omega
   ·simp at h;obtain⟨rfl,rfl⟩:=h;simp;omega
  ·simp at h
theorem zwh{a:zbu}(h:zeh r=some (a,r2)):z0y a+r2.length<=r.length:=by
 cases r with
 |nil=>simp[zeh,hdK] at h
 |cons x r =>
  unfold zeh at h
  split at h
  ·split at h
   ·split at h
    ·simp at h
    ·rename_i ts r3 hq
     have:=zx7 _ hq
     split at h <;> simp at h
     obtain⟨rfl,rfl⟩:=h;simp[z0y] at this ⊢;omega
   ·simp at h;obtain⟨rfl,rfl⟩:=h;simp[z0y];omega
  ·simp at h
theorem z9m{a:zbu}(h:zsf r=some (a,r2)):z0y a+r2.length<=r.length:=by
 unfold zsf at h
 split at h
 ·cases hq:zeh r.tail with
  |none=>rw[hq] at h;simp at h
  |some z =>
   obtain⟨a',r'⟩:=z
   rw[hq] at h;simp at h
   have:=zwh hq
   obtain⟨rfl,rfl⟩:=h;simp[z0y] at this ⊢;omega
 ·exact zwh h
theorem z8s{n:Nat}:∀ {r r2:List Tok} {b:List zbu},ze4 n r=some (b,r2)->sumW b+r2.length<=r.length:=by
 induction n with
 |zero=>intro r r2 b h;simp[ze4] at h
 |succ n ih =>
  intro r r2 b h
  cases hl:zsf r with
  |none=>rw[zrz hl] at h;cases h
  |some z =>
   obtain⟨a,r3⟩:=z
   have:=z9m hl
   by_cases h6:hdK r3=6
   ·rw[zmd hl h6] at h
    cases hq:ze4 n r3.tail with
    |none=>rw[hq] at h;simp at h
    |some z =>
     obtain⟨b',r'⟩:=z
     rw[hq] at h;simp at h
     have:=ih hq
     obtain⟨rfl,rfl⟩:=h;simp[sumW] at this ⊢;omega
   ·rw[zme hl h6] at h;simp at h;obtain⟨rfl,rfl⟩:=h;simp[sumW];omega
theorem z3n{n:Nat}{c:zab}(h:ze5 n r=some (c,r2)):clW c+r2.length<=r.length:=by
 unfold ze5 at h
 split at h
 ·cases h
 ·rename_i a r1 ha
  have:=zwh ha
  split at h
  ·split at h
   ·cases h
   ·rename_i b r3 hb
    have:=z8s hb
    split at h <;> simp at h
    obtain⟨rfl,rfl⟩:=h;simp[clW] at this ⊢;omega
  ·split at h <;> simp at h
   obtain⟨rfl,rfl⟩:=h;simp[clW,sumW];omega
theorem zwj{n0:Nat}:∀ {m:Nat} {r:List Tok} {cs:List zab},zew n0 m r=some cs->prW cs<=r.length
 |_,[],cs,h=>by simp[zew] at h;subst h;simp[prW]
 |0,_::_,cs,h=>by simp[zew] at h
 |m+1,x::r,cs,h=>by
  cases hc:ze5 n0 (x::r) with
  |none=>rw[zx6 (by simp) hc] at h;cases h
  |some z =>
   obtain⟨c,r2⟩:=z
   rw[zug (by simp) hc] at h
   cases hq:zew n0 m r2 with
   |none=>rw[hq] at h;simp at h
   |some cs' =>
    rw[hq] at h;simp at h;subst h
    have h1:=z3n hc
    have h2:=zwj hq
    simp only[prW,List.foldr_cons,ua7] at h1 h2 ⊢;omega
theorem zo3(ls:List zbu):zcd ls+ls.length=sumW ls:=by
 induction ls with
 |nil=>rfl
 |cons a ls ih=>simp[zcd,sumW,z0y] at ih ⊢;omega
theorem z8t{cs:List zab}{c:zab}(h:c∈cs):clW c<=prW cs:=by
 induction cs with
 |nil=>cases h
 |cons a cs ih =>
  rcases uag.1 h with rfl|h
  ·simp[prW]
  ·have:=ih h;simp[prW] at this ⊢;omega
theorem zx8(cs:List zab):(cs.flatMap za2).length<=prW cs:=by
 induction cs with
 |nil=>simp
 |cons a cs ih=>have:=zo3 a.body;simp[prW,clW,za2,z0y] at ih ⊢;omega
theorem z3r(cs:List zab):cs.length<=prW cs:=by
 induction cs with
 |nil=>simp
 |cons a cs ih=>simp[prW,clW,z0y] at ih ⊢;omega
theorem z7p{cs:List zab}(h:prW cs<=1000):∀ c∈cs,zpb c:=fun c hc=>by
 have h1:=z8t hc
 have h2:=zo3 c.body
 unfold clW z0y at h1
 exact⟨by omega,by omega⟩
theorem zmj:∀(n:Nat) (s:ByteArray) (i:Nat) (l:List (Int × ByteArray)),splitN n s i=some l->l.length<=s.size - i
 |0,_,_,l,h=>by simp[splitN] at h;subst h;simp
 |n+1,s,i,l,h=>by
  unfold splitN at h
  split at h
  ·rename_i hi
   split at h
   ·have:=zmj n s (i+1) l h;omega
   ·split at h
    ·cases h
    ·rename_i hk
     split at h
     ·cases h
     ·cases hq:splitN n s (zn2 s i (zii (bAt s i) (bAt s (i+1)))) with
      |none=>rw[hq] at h;simp at h
      |some l' =>
       rw[hq] at h;simp at h;subst h
       have:=zmj n s _ l' hq
       have:=z1y s i _ hi rfl hk
       simp;omega
  ·simp at h;subst h;simp
theorem zq2{s:ByteArray}{l:List Tok}(h:splitB s=some l):l.length<=s.size:=by have:=zmj _ s 0 l h;omega
def znz(s:ByteArray):Except Int (List zab × List zar) :=
 if 500 < s.size then .error 1 else
 match splitB s with
 |none=>.error 2
 |some l =>
  match zew l.length l.length l with
  |none=>.error 3
  |some cs =>
   if cs.any zem then .error 4 else
   match zgm cs with
   |none=>.error 5
   |some t =>
    if cs.all ze7 then
     if (zc0 (t.length+1) t cs).2 then .ok (cs,(zc0 (t.length+1) t cs).1) else .error 7
    else .error 6
def zgk(o:Except Int (List zab × List zar))(w:World)(e:Ending)(w':World):Prop :=
 Below w.heap.size w w'/\match o with
  |.error n=>e=.returned (.tuple #[.pointer none,.int .i64 n])
  |.ok (cs,t)=>∃ pb v pv,e=.returned (.tuple #[.pointer (some ⟨pb,0,none⟩),.int .i64 0])/\Box w' pb #[v,pv] 131/\CIn w.heap.size 171 w' v cs/\w'.ownsRow w.heap.size 221 3 pv t.length (zcb t)/\w.heap.size<=pb
theorem z6y(s:ByteArray)(w:World)(hs:s.size<=500)(h:splitB s=none):Calls Tryz.prog 59 #[.string s] w fun e w'=>e=.returned (.tuple #[.slice none 0 0,.bool false])/\Below w.heap.size w w':=by
 refine(zus s w hs).mono ?_
 rintro e w' ⟨h1,h2⟩
 rw[h] at h2
 exact⟨h2,h1⟩
theorem zhx(s:ByteArray)(w:World)(l:List Tok)(hs:s.size<=500)(h:splitB s=some l):Calls Tryz.prog 59 #[.string s] w fun e w'=>∃ v,e=.returned (.tuple #[v,.bool true])/\w'.ownsRow w.heap.size 182 2 v l.length (zgi l)/\l.length<=500/\Below w.heap.size w w':=by
 refine(zus s w hs).mono ?_
 rintro e w' ⟨h1,h2⟩
 rw[h] at h2
 obtain⟨v,a,b,c⟩:=h2
 exact⟨v,a,b,by omega,h1⟩
theorem z6o(w:World)(wv:Value)(l:List Tok)(base:Nat)(hw:w.ownsRow base 182 2 wv l.length (zgi l))(hl:l.length<=500)(h:zew l.length l.length l=none) :
  Calls Tryz.prog 60 #[wv] w fun e w'=>e=.returned (.tuple #[.slice none 0 0,.bool false])/\Below w.heap.size w w':=by
 refine(parse_any w wv l base hw hl).mono ?_
 rintro e w' ⟨h1,h2⟩
 rw[h] at h2
 exact⟨h2,h1⟩
theorem zi3(w:World)(wv:Value)(l:List Tok)(base:Nat)(cs:List zab)(hw:w.ownsRow base 182 2 wv l.length (zgi l))(hl:l.length<=500)(h:zew l.length l.length l=some cs) :
  Calls Tryz.prog 60 #[wv] w fun e w'=>∃ v,e=.returned (.tuple #[v,.bool true])/\CIn w.heap.size 171 w' v cs/\Below w.heap.size w w':=by
 refine(parse_any w wv l base hw hl).mono ?_
 rintro e w' ⟨h1,h2⟩
 rw[h] at h2
 obtain⟨v,a,b⟩:=h2
 exact⟨v,a,b,h1⟩
theorem zy3(w:World)(v:Value)(cs:List zab)(hcs:CIn lo 171 w v cs)(hN:(cs.flatMap za2).length<=1000)(h:zgm cs=none) :
  Calls Tryz.prog 62 #[v] w fun e w'=>e=.returned (.tuple #[.agg #[.slice none 0 0],.bool false])/\Below w.heap.size w w':=by
 refine(zny w v cs hcs hN).mono ?_
 rintro e w' ⟨h1,h2⟩
 rw[h] at h2
 exact⟨h2,h1⟩
theorem zkc(w:World)(v:Value)(cs:List zab)(t:List zar)(hcs:CIn lo 171 w v cs)(hN:(cs.flatMap za2).length<=1000)(h:zgm cs=some t) :
  Calls Tryz.prog 62 #[v] w fun e w'=>∃ pv,e=.returned (.tuple #[.agg #[pv],.bool true])/\w'.ownsRow w.heap.size 221 3 pv t.length (zcb t)/\Below w.heap.size w w':=by
 refine(zny w v cs hcs hN).mono ?_
 rintro e w' ⟨h1,h2⟩
 rw[h] at h2
 obtain⟨v,a,b⟩:=h2
 exact⟨v,a,b,h1⟩
theorem zs3(s:ByteArray)(w:World)(hs:500 < s.size)(hs2:s.size<=9223372036854775807) :
  Calls Tryz.prog 32 #[.string s] w fun e w'=>zgk (.error 1) w e w':=by
 go_enter Tryz.func32,Tryz.ntmps32
 go_wp2
 go_ret2
 exact⟨Below.refl _ _,rfl⟩
theorem z1m(s:ByteArray)(w:World)(hs:s.size<=500)(hS:splitB s=none) :
  Calls Tryz.prog 32 #[.string s] w fun e w'=>zgk (.error 2) w e w':=by
 have HS:Hid (splitB s=none):=hS
 clear hS
 go_enter Tryz.func32,Tryz.ntmps32
 go_wp2_with (first|(go_at_call 59;refine(z6y s _ hs HS).mono ?_;rintro e w1 ⟨rfl,hb1⟩))
 go_ret2
 exact⟨hb1,rfl⟩
theorem z1o(s:ByteArray)(w:World)(hs:s.size<=500)(l:List Tok)(hS:splitB s=some l)(hP:zew l.length l.length l=none) :
  Calls Tryz.prog 32 #[.string s] w fun e w'=>zgk (.error 3) w e w':=by
 have HS:Hid (splitB s=some l):=hS
 have HP:Hid (zew l.length l.length l=none):=hP
 clear hS hP
 go_enter Tryz.func32,Tryz.ntmps32
 go_wp2_with (first|(go_at_call 59;refine(zhx s _ l hs HS).mono ?_;rintro e w1 ⟨fv,rfl,hown,hll,hb1⟩;obtain⟨aof,capf,rfl⟩:=zac hown)|(go_at_call 60;refine(z6o _ _ l _ hown hll HP).mono ?_;rintro e w2 ⟨rfl,hb2⟩;have hB2:=zae hb1 hb2 (uaa _)))
 go_ret2
 exact⟨hB2,rfl⟩
theorem z1p(s:ByteArray)(w:World)(hs:s.size<=500)(l:List Tok)(cs:List zab)(hm:cs.any zem=true)(hS:splitB s=some l)(hP:zew l.length l.length l=some cs)(hok:∀ c∈cs,zpb c)(hlen:cs.length<=1000) :
  Calls Tryz.prog 32 #[.string s] w fun e w'=>zgk (.error 4) w e w':=by
 have HS:Hid (splitB s=some l):=hS
 have HP:Hid (zew l.length l.length l=some cs):=hP
 have HOK:Hid (∀ c∈cs,zpb c):=hok
 have HLEN:Hid (cs.length<=1000):=hlen
 clear hS hP hok hlen
 go_enter Tryz.func32,Tryz.ntmps32
 go_wp2_with (first|(go_at_call 59;refine(zhx s _ l hs HS).mono ?_;rintro e w1 ⟨fv,rfl,hown,hll,hb1⟩;obtain⟨aof,capf,rfl⟩:=zac hown)|(go_at_call 60;refine(zi3 _ _ l _ cs hown hll HP).mono ?_;rintro e w2 ⟨cv,rfl,hcin,hb2⟩;obtain⟨aoc,capc,rfl⟩:=hcin.shape;have hB2:=zae hb1 hb2 (uaa _))|(go_at_call 61;refine(zld _ _ cs hcin HOK.out HLEN.out).mono ?_;rintro e w3 ⟨rfl,hb3⟩;have hB3:=zae hB2 hb3 (uaa _);have hcin3:=hcin.below hb3))
 go_ret2
 exact⟨hB3,rfl⟩
theorem z1q(s:ByteArray)(w:World)(hs:s.size<=500)(l:List Tok)(cs:List zab)(hm:cs.any zem=false)(hS:splitB s=some l)(hP:zew l.length l.length l=some cs)(hok:∀ c∈cs,zpb c)(hlen:cs.length<=1000)(hlits:(cs.flatMap za2).length<=1000)(hC:zgm cs=none) :
  Calls Tryz.prog 32 #[.string s] w fun e w'=>zgk (.error 5) w e w':=by
 have HS:Hid (splitB s=some l):=hS
 have HP:Hid (zew l.length l.length l=some cs):=hP
 have HOK:Hid (∀ c∈cs,zpb c):=hok
 have HLEN:Hid (cs.length<=1000):=hlen
 have HLITS:Hid ((cs.flatMap za2).length<=1000):=hlits
 have HC:Hid (zgm cs=none):=hC
 clear hS hP hok hlen hlits hC
 go_enter Tryz.func32,Tryz.ntmps32
 go_wp2_with (first|(go_at_call 59;refine(zhx s _ l hs HS).mono ?_;rintro e w1 ⟨fv,rfl,hown,hll,hb1⟩;obtain⟨aof,capf,rfl⟩:=zac hown)|(go_at_call 60;refine(zi3 _ _ l _ cs hown hll HP).mono ?_;rintro e w2 ⟨cv,rfl,hcin,hb2⟩;obtain⟨aoc,capc,rfl⟩:=hcin.shape;have hB2:=zae hb1 hb2 (uaa _))|(go_at_call 61;refine(zld _ _ cs hcin HOK.out HLEN.out).mono ?_;rintro e w3 ⟨rfl,hb3⟩;have hB3:=zae hB2 hb3 (uaa _);have hcin3:=hcin.below hb3)|(go_at_call 62;refine(zy3 _ _ cs hcin3 HLITS.out HC).mono ?_;rintro e w4 ⟨rfl,hb4⟩;have hB4:=zae hB3 hb4 (uaa _);have hz4:=hB4.size))
 go_ret2
 exact⟨(by go_grown),rfl⟩
theorem z1r(s:ByteArray)(w:World)(hs:s.size<=500)(l:List Tok)(cs:List zab)(t:List zar)(hm:cs.any zem=false)(hsf:cs.all ze7=false)(hS:splitB s=some l)(hP:zew l.length l.length l=some cs)(hok:∀ c∈cs,zpb c)(hlen:cs.length<=1000)(hlits:(cs.flatMap za2).length<=1000)(hC:zgm cs=some t) :
  Calls Tryz.prog 32 #[.string s] w fun e w'=>zgk (.error 6) w e w':=by
 have HS:Hid (splitB s=some l):=hS
 have HP:Hid (zew l.length l.length l=some cs):=hP
 have HOK:Hid (∀ c∈cs,zpb c):=hok
 have HLEN:Hid (cs.length<=1000):=hlen
 have HLITS:Hid ((cs.flatMap za2).length<=1000):=hlits
 have HC:Hid (zgm cs=some t):=hC
 clear hS hP hok hlen hlits hC
 go_enter Tryz.func32,Tryz.ntmps32
 go_wp2_with (first|(go_at_call 59;refine(zhx s _ l hs HS).mono ?_;rintro e w1 ⟨fv,rfl,hown,hll,hb1⟩;obtain⟨aof,capf,rfl⟩:=zac hown)|(go_at_call 60;refine(zi3 _ _ l _ cs hown hll HP).mono ?_;rintro e w2 ⟨cv,rfl,hcin,hb2⟩;obtain⟨aoc,capc,rfl⟩:=hcin.shape;have hB2:=zae hb1 hb2 (uaa _))|(go_at_call 61;refine(zld _ _ cs hcin HOK.out HLEN.out).mono ?_;rintro e w3 ⟨rfl,hb3⟩;have hB3:=zae hB2 hb3 (uaa _);have hcin3:=hcin.below hb3)|(go_at_call 62;refine(zkc _ _ cs t hcin3 HLITS.out HC).mono ?_;rintro e w4 ⟨pv,rfl,hpo,hb4⟩;obtain⟨aop,capp,rfl⟩:=zac hpo;have hB4:=zae hB3 hb4 (uaa _);have hz4:=hB4.size;have hcin4:=hcin3.below hb4)|(go_at_call 63;refine(zr4 _ _ cs (by exact hcin4.below (by go_grown)) HOK.out HLEN.out).mono ?_;rintro e w5 ⟨rfl,hb5⟩;have hq5:=(Below.refl w4.heap.size w4).alloc (uaa _) (.cells #[.slice aop t.length capp] 127);have hbb5:=zae hq5 hb5 (uaa _);have hB5:=zae hB4 hbb5 (uaa _)))
 go_ret2
 exact⟨hB5,rfl⟩
theorem z1s(s:ByteArray)(w:World)(hs:s.size<=500)(l:List Tok)(cs:List zab)(t:List zar)(hm:cs.any zem=false)(hsf:cs.all ze7=true)(hst:(zc0 (t.length+1) t cs).2=false)(hS:splitB s=some l)(hP:zew l.length l.length l=some cs)(hok:∀ c∈cs,zpb c)(hlen:cs.length<=1000)(hlits:(cs.flatMap za2).length<=1000)(hC:zgm cs=some t)(htl:t.length<=1000)(htz:∀ e∈t,e.qi<=0) :
  Calls Tryz.prog 32 #[.string s] w fun e w'=>zgk (.error 7) w e w':=by
 have HS:Hid (splitB s=some l):=hS
 have HP:Hid (zew l.length l.length l=some cs):=hP
 have HOK:Hid (∀ c∈cs,zpb c):=hok
 have HLEN:Hid (cs.length<=1000):=hlen
 have HLITS:Hid ((cs.flatMap za2).length<=1000):=hlits
 have HC:Hid (zgm cs=some t):=hC
 have HTL:Hid (t.length<=1000):=htl
 have HTZ:Hid (∀ e∈t,e.qi<=0):=htz
 clear hS hP hok hlen hlits hC htl htz
 go_enter Tryz.func32,Tryz.ntmps32
 go_wp2_with (first|(go_at_call 59;refine(zhx s _ l hs HS).mono ?_;rintro e w1 ⟨fv,rfl,hown,hll,hb1⟩;obtain⟨aof,capf,rfl⟩:=zac hown)|(go_at_call 60;refine(zi3 _ _ l _ cs hown hll HP).mono ?_;rintro e w2 ⟨cv,rfl,hcin,hb2⟩;obtain⟨aoc,capc,rfl⟩:=hcin.shape;have hB2:=zae hb1 hb2 (uaa _))|(go_at_call 61;refine(zld _ _ cs hcin HOK.out HLEN.out).mono ?_;rintro e w3 ⟨rfl,hb3⟩;have hB3:=zae hB2 hb3 (uaa _);have hcin3:=hcin.below hb3)|(go_at_call 62;refine(zkc _ _ cs t hcin3 HLITS.out HC).mono ?_;rintro e w4 ⟨pv,rfl,hpo,hb4⟩;obtain⟨aop,capp,rfl⟩:=zac hpo;have hB4:=zae hB3 hb4 (uaa _);have hz4:=hB4.size;have hcin4:=hcin3.below hb4)|(go_at_call 63;refine(zr4 _ _ cs (by exact hcin4.below (by go_grown)) HOK.out HLEN.out).mono ?_;rintro e w5 ⟨rfl,hb5⟩;have hq5:=(Below.refl w4.heap.size w4).alloc (uaa _) (.cells #[.slice aop t.length capp] 127);have hbb5:=zae hq5 hb5 (uaa _);have hB5:=zae hB4 hbb5 (uaa _))|(go_at_call 64;refine(zmx w3.heap.size _ w4.heap.size t _ cs w3 rfl (zae hb4 hbb5 (uaa _)) hcin3 HOK.out HLEN.out ⟨_,(Box.new w4 _ _).below hb5,zaa hpo hbb5⟩ HTL.out HTZ.out).mono ?_;rintro e w6 ⟨rfl,hta6,hb6⟩;obtain⟨ao6,cap6,hbx6,hown6⟩:=hta6.view;obtain⟨hc6,hf6⟩:=hbx6.rules;have hB6:Below w.heap.size w w6:=hB5.trans (hb6.mono (uap hB3.size (uaa _)));have hz6:=hbx6.lt))
 go_ret2
 exact⟨hB6,rfl⟩
theorem z1l(s:ByteArray)(w:World)(hs:s.size<=500)(l:List Tok)(cs:List zab)(t:List zar)(hm:cs.any zem=false)(hsf:cs.all ze7=true)(hst:(zc0 (t.length+1) t cs).2=true)(hS:splitB s=some l)(hP:zew l.length l.length l=some cs)(hok:∀ c∈cs,zpb c)(hlen:cs.length<=1000)(hlits:(cs.flatMap za2).length<=1000)(hC:zgm cs=some t)(htl:t.length<=1000)(htz:∀ e∈t,e.qi<=0) :
  Calls Tryz.prog 32 #[.string s] w fun e w'=>zgk (.ok (cs,(zc0 (t.length+1) t cs).1)) w e w':=by
 have HS:Hid (splitB s=some l):=hS
 have HP:Hid (zew l.length l.length l=some cs):=hP
 have HOK:Hid (∀ c∈cs,zpb c):=hok
 have HLEN:Hid (cs.length<=1000):=hlen
 have HLITS:Hid ((cs.flatMap za2).length<=1000):=hlits
 have HC:Hid (zgm cs=some t):=hC
 have HTL:Hid (t.length<=1000):=htl
 have HTZ:Hid (∀ e∈t,e.qi<=0):=htz
 clear hS hP hok hlen hlits hC htl htz
 go_enter Tryz.func32,Tryz.ntmps32
 go_wp2_with (first|(go_at_call 59;refine(zhx s _ l hs HS).mono ?_;rintro e w1 ⟨fv,rfl,hown,hll,hb1⟩;obtain⟨aof,capf,rfl⟩:=zac hown)|(go_at_call 60;refine(zi3 _ _ l _ cs hown hll HP).mono ?_;rintro e w2 ⟨cv,rfl,hcin,hb2⟩;obtain⟨aoc,capc,rfl⟩:=hcin.shape;have hB2:=zae hb1 hb2 (uaa _))|(go_at_call 61;refine(zld _ _ cs hcin HOK.out HLEN.out).mono ?_;rintro e w3 ⟨rfl,hb3⟩;have hB3:=zae hB2 hb3 (uaa _);have hcin3:=hcin.below hb3)|(go_at_call 62;refine(zkc _ _ cs t hcin3 HLITS.out HC).mono ?_;rintro e w4 ⟨pv,rfl,hpo,hb4⟩;obtain⟨aop,capp,rfl⟩:=zac hpo;have hB4:=zae hB3 hb4 (uaa _);have hz4:=hB4.size;have hcin4:=hcin3.below hb4)|(go_at_call 63;refine(zr4 _ _ cs (by exact hcin4.below (by go_grown)) HOK.out HLEN.out).mono ?_;rintro e w5 ⟨rfl,hb5⟩;have hq5:=(Below.refl w4.heap.size w4).alloc (uaa _) (.cells #[.slice aop t.length capp] 127);have hbb5:=zae hq5 hb5 (uaa _);have hB5:=zae hB4 hbb5 (uaa _))|(go_at_call 64;refine(zmx w3.heap.size _ w4.heap.size t _ cs w3 rfl (zae hb4 hbb5 (uaa _)) hcin3 HOK.out HLEN.out ⟨_,(Box.new w4 _ _).below hb5,zaa hpo hbb5⟩ HTL.out HTZ.out).mono ?_;rintro e w6 ⟨rfl,hta6,hb6⟩;obtain⟨ao6,cap6,hbx6,hown6⟩:=hta6.view;obtain⟨hc6,hf6⟩:=hbx6.rules;have hB6:Below w.heap.size w w6:=hB5.trans (hb6.mono (uap hB3.size (uaa _)));have hz6:=hbx6.lt))
 have hz66:=hB6.size
 have hcin6:=hcin3.below ((zae hb4 hbb5 (uaa _)).trans hb6)
 go_ret2
 exact⟨(by go_grown),w6.heap.size,_,_,rfl,Box.new _ _ _,(hcin6.low hb1.size).below ((Below.refl _ _).alloc (uaa _) _),zbf (zaa hown6 ((Below.refl _ _).alloc (uaa _) _)) hB3.size,hz66⟩
theorem zkd(s:ByteArray)(w:World)(hs2:s.size<=9223372036854775807) :
  Calls Tryz.prog 32 #[.string s] w fun e w'=>zgk (znz s) w e w':=by
 unfold znz
 split
 ·rename_i hs;exact zs3 s w hs hs2
 ·rename_i hs
  have hs':s.size<=500:=by omega
  split
  ·rename_i hS;exact z1m s w hs' hS
  ·rename_i l hS
   split
   ·rename_i hP;exact z1o s w hs' l hS hP
   ·rename_i cs hP
    have hl:l.length<=500:=by
     have:=zq2 hS;omega
    have hw:=zwj hP
    have hok:=z7p (cs:=cs) (by omega)
    have hlen:cs.length<=1000:=by have:=z3r cs;omega
    have hlits:(cs.flatMap za2).length<=1000:=by have:=zx8 cs;omega
    split
    ·rename_i hm;exact z1p s w hs' l cs hm hS hP hok hlen
    ·rename_i hm
     have hm':cs.any zem=false:=by simpa using hm
     split
     ·rename_i hC;exact z1q s w hs' l cs hm' hS hP hok hlen hlits hC
     ·rename_i t hC
      have htl:t.length<=1000:=by have:=zrh _ _ _ hC;simp only[uch] at this;omega
      have htz:∀ e∈t,e.qi<=0:=znr _ [] (by simp) t hC
      split
      ·rename_i hsf
       split
       ·rename_i hst;exact z1l s w hs' l cs t hm' hsf hst hS hP hok hlen hlits hC htl htz
       ·rename_i hst;exact z1s s w hs' l cs t hm' hsf (by simpa using hst) hS hP hok hlen hlits hC htl htz
      ·rename_i hsf;exact z1r s w hs' l cs t hm' (by simpa using hsf) hS hP hok hlen hlits hC
end Go.Proofs.YteampbddflhngaaGreat
namespace Go.Proofs.YteampbddflhngaaGreat
open Go.RowKit
variable {lo:Nat}
def TP(B:Nat)(w:World)(tb:Nat)(t:List zar):Prop:=∃ cv pv,Box w tb #[cv,pv] 131/\w.ownsRow B 221 3 pv t.length (zcb t)
theorem TP.view{B:Nat}{w:World}{tb:Nat}{t:List zar}(h:TP B w tb t):∃ cv ao cap,Box w tb #[cv,.slice ao t.length cap] 131/\w.ownsRow B 221 3 (.slice ao t.length cap) t.length (zcb t):=by
 obtain⟨cv,nv,h1,h2⟩:=h
 obtain⟨ao,cap,rfl⟩:=zac h2
 exact⟨cv,ao,cap,h1,h2⟩
end Go.Proofs.YteampbddflhngaaGreat
