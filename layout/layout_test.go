// Package layout_test sees to what the project's folders hold.
package layout_test

import (
	"io/fs"
	"path/filepath"
	"strings"
	"testing"
)

// strayFiles returns the files of the package folders under root that are no Go files. A folder whose name begins with a
// period is none of them, nor is the one that .ci/run adds; and the files at the root belong to no package.
func strayFiles(root string) (found []string, goFiles int, e error) {
	e = filepath.WalkDir(root, func(path string, entry fs.DirEntry, e error) error {
		switch {
		case e != nil:
			return e
		case entry.IsDir() && path != root && (strings.HasPrefix(entry.Name(), ".") || entry.Name() == "sharedtests"):
			return filepath.SkipDir
		case entry.IsDir() || filepath.Dir(path) == filepath.Clean(root):
			return nil
		case filepath.Ext(path) == ".go":
			goFiles++
		default:
			found = append(found, path)
		}
		return nil
	})
	return found, goFiles, e
}

// Rule 2 of the language: no file beside the Go files.
func TestPackagesHoldGoFilesAlone(t *testing.T) {
	found, goFiles, e := strayFiles("..")
	if e != nil {
		t.Fatal(e)
	}
	if goFiles < 50 {
		t.Errorf("the test is wrong: it saw only %d Go files", goFiles)
	}
	for _, path := range found {
		t.Errorf("%s is no Go file", path)
	}
}
