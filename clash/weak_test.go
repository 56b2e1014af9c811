package clash

import (
	"encoding/json"
	"os"
	"os/exec"
	"path/filepath"
	"testing"

	"inspeximus/api"
	"inspeximus/sha"
)

// weakSha stands for layer 1 where the exported calls are to find clashes: its digest has three bits.
const weakSha = `package sha

import "inspeximus/api"

func Sum(parts ...[]byte) api.Hash {
	n := uint32(2166136261)
	for _, part := range parts {
		for _, b := range part {
			n = (n ^ uint32(b)) * 16777619
		}
	}
	n ^= n >> 15
	n *= 2246822519
	return api.Hash{byte(n >> 29)}
}

func Hex(api.Hash) string                    { return "" }
func Fill(int) []byte                        { return nil }
func Turn(h [8]uint32, _ []byte) [8]uint32   { return h }
`

// isWeak tells a test that it runs with weakSha for layer 1.
const isWeak = "INSPEXIMUS_WEAK_SHA"

// P7.1, P7.2, P7.3: the exported calls, by a layer 1 that has clashes: nothing hangs on that SHA-256 has none.
func TestWeakLayerOne(t *testing.T) {
	if os.Getenv(isWeak) == "" {
		runWithWeakSha(t)
		return
	}
	d := digest(func(text []byte) api.Hash { return sha.Sum(text) })
	if got := holdLists(t, d, Extract); got != "top node leaf" {
		t.Errorf("clashes of lists at %q", got)
	}
	if got := holdPaths(t, d, Paths); got != "top node leaf" {
		t.Errorf("clashes of paths at %q", got)
	}
	for _, a := range leaves(60) {
		for _, b := range leaves(60) {
			if Is(a, b) != d.clash(a, b) {
				t.Errorf("%q and %q: %v", a, b, Is(a, b))
			}
		}
	}
	for _, n := range sizes() {
		if Roots(leaves(n)) != d.roots(leaves(n)) {
			t.Errorf("the root of %d leaves", n)
		}
	}
}

// runWithWeakSha runs the test that calls it once more, by a build in which weakSha lies over layer 1.
func runWithWeakSha(t *testing.T) {
	t.Helper()
	tool, err := exec.LookPath("go")
	if err != nil {
		t.Skip("there is no go to build with: ", err)
	}
	layer, err := filepath.Abs(filepath.Join("..", "sha", "sha.go"))
	if err != nil {
		t.Fatal(err)
	}
	folder := t.TempDir()
	over := filepath.Join(folder, "sha.go")
	overlay, err := json.Marshal(map[string]map[string]string{"Replace": {layer: over}})
	if err != nil {
		t.Fatal(err)
	}
	list := filepath.Join(folder, "overlay.json")
	for name, text := range map[string][]byte{over: []byte(weakSha), list: overlay} {
		if err := os.WriteFile(name, text, 0o600); err != nil {
			t.Fatal(err)
		}
	}
	run := exec.Command(tool, "test", "-count=1", "-vet=off", "-overlay", list, "-run", "^"+t.Name()+"$", ".")
	run.Env = append(os.Environ(), isWeak+"=1")
	if out, err := run.CombinedOutput(); err != nil {
		t.Errorf("with a weak layer 1: %v\n%s", err, out)
	}
}
